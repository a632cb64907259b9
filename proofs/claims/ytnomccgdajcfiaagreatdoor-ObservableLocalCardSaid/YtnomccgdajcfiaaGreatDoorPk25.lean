/- Joined: OeM, OeC, OeC1, OeC2. -/
import Derived.Test.YtnomccgdajcfiaaGreatDoorPk23
import Derived.Test.YtnomccgdajcfiaaGreatDoorPk24
import Derived.Maps.OwnSet
import Derived.Maps.OwnOps
import Derived.Deep.RegionHeld3
/- Layer 8: the program's maps of operations. -/
namespace Go.Proofs.YtnomccgdajcfiaaGreatDoor
open Go Go.RowKit Go.Maps Go.BigFrame
def fnR (v : Value) : Option (DataW Unit × List MemPlace) :=
  match v with
  | .func (.func f) a c => if a.size = 0 ∧ c.size = 0 then some (.lit (.int .i64 (f : Nat)), []) else none
  | .nilFunc => some (.lit (.int .i64 (-1)), [])
  | _ => none
theorem fnR_inv {v : Value} {f : Nat} {ps : List MemPlace} (h : fnR v = some (.lit (.int .i64 (f : Nat)), ps)) : v = .func (.func f) #[] #[] := by
  unfold fnR at h
  split at h
  · next g a c =>
    split at h
    · next e =>
      injection h with h
      injection h with h1 _
      injection h1 with h1
      injection h1 with _ h1
      have h1 : g = f := by exact_mod_cast h1
      subst h1
      rw [Array.eq_empty_of_size_eq_zero e.1, Array.eq_empty_of_size_eq_zero e.2]
    · cases h
  · injection h with h
    injection h with h1 _
    injection h1 with h1
    injection h1 with _ h1
    omega
  · cases h
theorem lookF_run {P : Program} {w : World} (t k e : TypeId) (KK : Keyed P k) (ht : P.underlying t = some (.map k e)) (hz : (zeroValue e).run P w = .ok .nilFunc w) (b n : Nat) (D : DataW Unit) (hown : w.ownsMap P k fnR b n D) (key : Value) (kl : Lit) (hkey : keyOf P k key = some kl)
    (f : Nat) (hat : D.atKey kl (.lit (.int .i64 (-1))) = .lit (.int .i64 (f : Nat))) : (Instr.lookup t (.map (some b)) key false).run P w = .ok (.func (.func f) #[] #[]) w := by
  obtain ⟨v, ps, hrun, hv⟩ := hown.lookup KK ht hz (zd := .lit (.int .i64 (-1))) (zp := []) rfl hkey
  rw [hat] at hv
  obtain rfl := fnR_inv hv
  exact hrun
theorem wpList_insF {P : Program} (w : World) {ops : Array Oper} {rest : List Oper} {o : Oper} {a : Act} {Q : Exit → Act → World → Prop}
    (hg : o.guard = none) (m x v : Operand) (t : TypeId) (hop : o.op = Op.insert t m x v)
    (k e : TypeId) (K : Keyed P k) (ht : P.underlying t = some (.map k e)) (R : Value → Option (DataW Unit × List MemPlace)) (b n : Nat) (D : DataW Unit)
    (hm : a.eval m = .map (some b)) (hown : w.ownsMap P k R b n D) (hn : n < maxLen) (key val : Value) (kl : Lit) (hx : a.eval x = key) (hv : a.eval v = val) (hkey : keyOf P k key = some kl)
    (d : DataW Unit) (ps : List MemPlace) (hval : R val = some (d, ps))
    (hK : ∀ w', w'.ownsMap P k R b (n + 1) (D.put kl d) → w.grownBy w' (some b) → wpList P ops Q rest (a.put o.dst undef) w') :
    wpList P ops Q (o :: rest) a w := by
  refine wpList_plain hg fun K' hK' => ?_
  obtain ⟨w', hrun, r1, r2⟩ := hown.update K ht hn hkey hval
  unfold Oper.wp
  simp [execOp, hop, hm, hx, hv, hrun, Result.andThen]
  exact hK' _ _ (hK w' r1 r2)
theorem u8K : Keyed Tryz.prog 5 := int_keyed Tryz.underlying5
def opsD : DataW Unit := ((((((DataW.map [] : DataW Unit)).put (.int .u8 4) (.lit (.int .i64 ((128 : Nat) : Int)))).put (.int .u8 5) (.lit (.int .i64 ((129 : Nat) : Int)))).put (.int .u8 6) (.lit (.int .i64 ((130 : Nat) : Int)))).put (.int .u8 7) (.lit (.int .i64 ((131 : Nat) : Int)))).put (.int .u8 8) (.lit (.int .i64 ((132 : Nat) : Int)))
def opsR (w : World) (e : Ending) (w' : World) : Prop := ∃ B, e = .returned (.map (some B)) ∧ w'.ownsMap Tryz.prog 5 fnR B 5 opsD ∧ Below w.heap.size w w'
theorem zero_ops (w : World) : (zeroValue 128).run Tryz.prog w = .ok .nilFunc w := by kernel_rfl
theorem at_ops4 : opsD.atKey (.int .u8 4) (.lit (.int .i64 (-1))) = .lit (.int .i64 ((128 : Nat) : Int)) := by rfl
theorem at_ops5 : opsD.atKey (.int .u8 5) (.lit (.int .i64 (-1))) = .lit (.int .i64 ((129 : Nat) : Int)) := by rfl
theorem at_ops6 : opsD.atKey (.int .u8 6) (.lit (.int .i64 (-1))) = .lit (.int .i64 ((130 : Nat) : Int)) := by rfl
theorem at_ops7 : opsD.atKey (.int .u8 7) (.lit (.int .i64 (-1))) = .lit (.int .i64 ((131 : Nat) : Int)) := by rfl
theorem at_ops8 : opsD.atKey (.int .u8 8) (.lit (.int .i64 (-1))) = .lit (.int .i64 ((132 : Nat) : Int)) := by rfl
set_option maxRecDepth 100000 in
set_option maxHeartbeats 1600000 in
theorem pops_any (w : World) : Calls Tryz.prog 91 #[] w (opsR w) := by
  have hmm := @run_makeMap Tryz.prog
  have k0 : keyOf Tryz.prog 5 (.int .u8 4) = some (.int .u8 4) := keyOf_int_mk Tryz.underlying5 (by decide)
  have e0 : fnR (.func (.func 128) #[] #[]) = some (.lit (.int .i64 ((128 : Nat) : Int)), []) := rfl
  have k1 : keyOf Tryz.prog 5 (.int .u8 5) = some (.int .u8 5) := keyOf_int_mk Tryz.underlying5 (by decide)
  have e1 : fnR (.func (.func 129) #[] #[]) = some (.lit (.int .i64 ((129 : Nat) : Int)), []) := rfl
  have k2 : keyOf Tryz.prog 5 (.int .u8 6) = some (.int .u8 6) := keyOf_int_mk Tryz.underlying5 (by decide)
  have e2 : fnR (.func (.func 130) #[] #[]) = some (.lit (.int .i64 ((130 : Nat) : Int)), []) := rfl
  have k3 : keyOf Tryz.prog 5 (.int .u8 7) = some (.int .u8 7) := keyOf_int_mk Tryz.underlying5 (by decide)
  have e3 : fnR (.func (.func 131) #[] #[]) = some (.lit (.int .i64 ((131 : Nat) : Int)), []) := rfl
  have k4 : keyOf Tryz.prog 5 (.int .u8 8) = some (.int .u8 8) := keyOf_int_mk Tryz.underlying5 (by decide)
  have e4 : fnR (.func (.func 132) #[] #[]) = some (.lit (.int .i64 ((132 : Nat) : Int)), []) := rfl
  have o0 := World.ownsMap_made w Tryz.prog 5 fnR
  have hb0 : Below w.heap.size w (w.alloc (.map #[] 0)) := (Below.refl _ _).alloc (Nat.le_refl _) _
  go_enter Tryz.func91, Tryz.ntmps91
  go_wp2_with (first
    | (refine wpList_insF _ rfl _ _ _ 129 rfl 5 128 u8K Tryz.underlying129 _ _ _ _ rfl o0 (by unfold maxLen; omega) _ _ _ rfl rfl k0 _ [] e0 ?_; intro w1 o1 g1)
    | (refine wpList_insF _ rfl _ _ _ 129 rfl 5 128 u8K Tryz.underlying129 _ _ _ _ rfl o1 (by unfold maxLen; omega) _ _ _ rfl rfl k1 _ [] e1 ?_; intro w2 o2 g2)
    | (refine wpList_insF _ rfl _ _ _ 129 rfl 5 128 u8K Tryz.underlying129 _ _ _ _ rfl o2 (by unfold maxLen; omega) _ _ _ rfl rfl k2 _ [] e2 ?_; intro w3 o3 g3)
    | (refine wpList_insF _ rfl _ _ _ 129 rfl 5 128 u8K Tryz.underlying129 _ _ _ _ rfl o3 (by unfold maxLen; omega) _ _ _ rfl rfl k3 _ [] e3 ?_; intro w4 o4 g4)
    | (refine wpList_insF _ rfl _ _ _ 129 rfl 5 128 u8K Tryz.underlying129 _ _ _ _ rfl o4 (by unfold maxLen; omega) _ _ _ rfl rfl k4 _ [] e4 ?_; intro w5 o5 g5))
  have b1 := hb0.grown g1 (by simp) (fun k hk => by cases hk; exact Nat.le_refl _)
  have b2 := b1.grown g2 b1.size (fun k hk => by cases hk; exact Nat.le_refl _)
  have b3 := b2.grown g3 b2.size (fun k hk => by cases hk; exact Nat.le_refl _)
  have b4 := b3.grown g4 b3.size (fun k hk => by cases hk; exact Nat.le_refl _)
  have b5 := b4.grown g5 b4.size (fun k hk => by cases hk; exact Nat.le_refl _)
  have h6 : opsR w (.returned (.map (some w.heap.size))) w5 := ⟨_, rfl, o5, b5⟩
  clear hmm hb0 o0 g1 o1 b1 g2 o2 b2 g3 o3 b3 g4 o4 b4 g5 o5 b5
  go_ret
  exact h6
def cpsD : DataW Unit := (((DataW.map [] : DataW Unit)).put (.int .u8 11) (.lit (.int .i64 ((133 : Nat) : Int)))).put (.int .u8 12) (.lit (.int .i64 ((134 : Nat) : Int)))
def cpsR (w : World) (e : Ending) (w' : World) : Prop := ∃ B, e = .returned (.map (some B)) ∧ w'.ownsMap Tryz.prog 5 fnR B 2 cpsD ∧ Below w.heap.size w w'
theorem zero_cps (w : World) : (zeroValue 131).run Tryz.prog w = .ok .nilFunc w := by kernel_rfl
theorem at_cps11 : cpsD.atKey (.int .u8 11) (.lit (.int .i64 (-1))) = .lit (.int .i64 ((133 : Nat) : Int)) := by rfl
theorem at_cps12 : cpsD.atKey (.int .u8 12) (.lit (.int .i64 (-1))) = .lit (.int .i64 ((134 : Nat) : Int)) := by rfl
set_option maxRecDepth 100000 in
set_option maxHeartbeats 1600000 in
theorem pcps_any (w : World) : Calls Tryz.prog 95 #[] w (cpsR w) := by
  have hmm := @run_makeMap Tryz.prog
  have k0 : keyOf Tryz.prog 5 (.int .u8 11) = some (.int .u8 11) := keyOf_int_mk Tryz.underlying5 (by decide)
  have e0 : fnR (.func (.func 133) #[] #[]) = some (.lit (.int .i64 ((133 : Nat) : Int)), []) := rfl
  have k1 : keyOf Tryz.prog 5 (.int .u8 12) = some (.int .u8 12) := keyOf_int_mk Tryz.underlying5 (by decide)
  have e1 : fnR (.func (.func 134) #[] #[]) = some (.lit (.int .i64 ((134 : Nat) : Int)), []) := rfl
  have o0 := World.ownsMap_made w Tryz.prog 5 fnR
  have hb0 : Below w.heap.size w (w.alloc (.map #[] 0)) := (Below.refl _ _).alloc (Nat.le_refl _) _
  go_enter Tryz.func95, Tryz.ntmps95
  go_wp2_with (first
    | (refine wpList_insF _ rfl _ _ _ 132 rfl 5 131 u8K Tryz.underlying132 _ _ _ _ rfl o0 (by unfold maxLen; omega) _ _ _ rfl rfl k0 _ [] e0 ?_; intro w1 o1 g1)
    | (refine wpList_insF _ rfl _ _ _ 132 rfl 5 131 u8K Tryz.underlying132 _ _ _ _ rfl o1 (by unfold maxLen; omega) _ _ _ rfl rfl k1 _ [] e1 ?_; intro w2 o2 g2))
  have b1 := hb0.grown g1 (by simp) (fun k hk => by cases hk; exact Nat.le_refl _)
  have b2 := b1.grown g2 b1.size (fun k hk => by cases hk; exact Nat.le_refl _)
  have h6 : cpsR w (.returned (.map (some w.heap.size))) w2 := ⟨_, rfl, o2, b2⟩
  clear hmm hb0 o0 g1 o1 b1 g2 o2 b2
  go_ret
  exact h6
end Go.Proofs.YtnomccgdajcfiaaGreatDoor
/- Layer 8: the program's evaluation: what it stands on. -/
namespace Go.Proofs.YtnomccgdajcfiaaGreatDoor
open Go Go.RowKit Go.BigFrame
abbrev evV (day : Int) (E : Ev) : Value := .agg #[.int .i64 day, .slice E.fA E.fs.length E.fc, .slice E.cA E.cs.length E.cc]
structure PvG (Q : Nat) (day : Int) (k : Int) (r n : ByteArray) (d : Int) (A : Option Addr) (l c : Nat) (fA : Option Addr) (fl fc : Nat) (cA : Option Addr) (cl cc : Nat) (W : World) : Prop where
  e0 : W.cell? ⟨Q, 0, none⟩ = some (.int .i64 day)
  e1 : W.cell? ⟨Q, 1, none⟩ = some (.slice fA fl fc)
  e2 : W.cell? ⟨Q, 2, none⟩ = some (.slice cA cl cc)
  c0 : W.cell? ⟨Q + 1, 0, none⟩ = some (.int .u8 k)
  c1 : W.cell? ⟨Q + 1, 1, none⟩ = some (.string r)
  c2 : W.cell? ⟨Q + 1, 2, none⟩ = some (.string n)
  c3 : W.cell? ⟨Q + 1, 3, none⟩ = some (.int .i64 d)
  c4 : W.cell? ⟨Q + 1, 4, none⟩ = some (.slice A l c)
section
variable {Q : Nat} {day k : Int} {r n : ByteArray} {d : Int} {A : Option Addr} {l c : Nat} {fA : Option Addr} {fl fc : Nat} {cA : Option Addr} {cl cc : Nat}
theorem PvG.below {W W' : World} (h : PvG Q day k r n d A l c fA fl fc cA cl cc W) (hb : Below W.heap.size W W') : PvG Q day k r n d A l c fA fl fc cA cl cc W' :=
  ⟨cellO hb h.e0, cellO hb h.e1, cellO hb h.e2, cellO hb h.c0, cellO hb h.c1, cellO hb h.c2, cellO hb h.c3, cellO hb h.c4⟩
theorem PvG.of (w : World) (t1 t2 : TypeId) : PvG w.heap.size day k r n d A l c fA fl fc cA cl cc ((w.alloc (.cells #[.int .i64 day, .slice fA fl fc, .slice cA cl cc] t1)).alloc (.cells #[.int .u8 k, .string r, .string n, .int .i64 d, .slice A l c] t2)) := by
  have hb := belO (w.alloc (.cells #[.int .i64 day, .slice fA fl fc, .slice cA cl cc] t1)) (.cells #[.int .u8 k, .string r, .string n, .int .i64 d, .slice A l c] t2)
  have h1 : (w.alloc (.cells #[.int .i64 day, .slice fA fl fc, .slice cA cl cc] t1)).heap[w.heap.size]? = some (.cells #[.int .i64 day, .slice fA fl fc, .slice cA cl cc] t1 (0, 0)) := heap_alloc_new w _
  have h2 := heap_alloc_new (w.alloc (.cells #[.int .i64 day, .slice fA fl fc, .slice cA cl cc] t1)) (.cells #[.int .u8 k, .string r, .string n, .int .i64 d, .slice A l c] t2)
  rw [World.size_alloc] at h2
  exact ⟨cellO hb (row_cell (j := 0) h1 rfl), cellO hb (row_cell (j := 1) h1 rfl), cellO hb (row_cell (j := 2) h1 rfl), row_cell (j := 0) h2 rfl, row_cell (j := 1) h2 rfl, row_cell (j := 2) h2 rfl, row_cell (j := 3) h2 rfl, row_cell (j := 4) h2 rfl⟩
end
theorem pv_begin (w : World) (day k : Int) (r n : ByteArray) (d : Int) (A : Option Addr) (l c : Nat) (fA : Option Addr) (fl fc : Nat) (cA : Option Addr) (cl cc : Nat) :
    ∃ w1, (w.alloc (.cells #[.int .i64 day, .slice fA fl fc, .slice cA cl cc] 84)).alloc (.cells #[.int .u8 k, .string r, .string n, .int .i64 d, .slice A l c] 26) = w1 ∧ Below w.heap.size w w1 ∧ PvG w.heap.size day k r n d A l c fA fl fc cA cl cc w1 :=
  ⟨_, rfl, btO (belO w _) (belO _ _), PvG.of w _ _⟩
theorem PvG.zs {Q : Nat} {day k : Int} {r n : ByteArray} {d : Int} {A : Option Addr} {l c : Nat} {fA : Option Addr} {fl fc : Nat} {cA : Option Addr} {cl cc : Nat} {W : World} (h : PvG Q day k r n d A l c fA fl fc cA cl cc W) :
    (∀ z : Bel W, z.1.cell? ⟨Q, 0, none⟩ = some (.int .i64 day)) ∧ (∀ z : Bel W, z.1.cell? ⟨Q, 1, none⟩ = some (.slice fA fl fc)) ∧ (∀ z : Bel W, z.1.cell? ⟨Q, 2, none⟩ = some (.slice cA cl cc)) ∧ (∀ z : Bel W, z.1.cell? ⟨Q + 1, 0, none⟩ = some (.int .u8 k)) ∧ (∀ z : Bel W, z.1.cell? ⟨Q + 1, 1, none⟩ = some (.string r)) ∧ (∀ z : Bel W, z.1.cell? ⟨Q + 1, 2, none⟩ = some (.string n)) ∧ (∀ z : Bel W, z.1.cell? ⟨Q + 1, 3, none⟩ = some (.int .i64 d)) ∧ (∀ z : Bel W, z.1.cell? ⟨Q + 1, 4, none⟩ = some (.slice A l c)) :=
  ⟨fun z => z.cell h.e0, fun z => z.cell h.e1, fun z => z.cell h.e2, fun z => z.cell h.c0, fun z => z.cell h.c1, fun z => z.cell h.c2, fun z => z.cell h.c3, fun z => z.cell h.c4⟩
structure Ev.Inv (E : Ev) (W : World) : Prop where
  i : E.In W
  v : VarR W
theorem Ev.Inv.below {E : Ev} {W W' : World} (h : E.Inv W) (hb : Below W.heap.size W W') : E.Inv W' := ⟨h.i.below hb, h.v.below hb⟩
def PrE (a b : ByteArray) (c : Int) (w : World) (e : Ending) (w' : World) : Prop := e = .returned (.tuple #[.agg #[.string a, .string b], .int .i64 c]) ∧ Below w.heap.size w w'
set_option maxRecDepth 100000 in
theorem pfixing_any (E : Ev) (day : Int) (n : ByteArray) (d : Int) (w : World) (hin : E.In w) : Calls Tryz.prog 88 #[evV day E, .string n, .int .i64 d] w (StE (lkN E.fs n d).1 (lkN E.fs n d).2 w) := by
  obtain ⟨fA, fs, fc, cA, cs, cc⟩ := E
  have HB1 := belO w (.cells #[.int .i64 day, .slice fA fs.length fc, .slice cA cs.length cc] 84)
  have hr := heap_alloc_new w (.cells #[.int .i64 day, .slice fA fs.length fc, .slice cA cs.length cc] 84)
  have c0 := row_cell (j := 0) hr rfl
  have c1 := row_cell (j := 1) hr rfl
  have c2 := row_cell (j := 2) hr rfl
  have HF := Lib.hid (pfind_anyO ⟨fA, fs, fc, cA, cs, cc⟩ n d _ (hin.below HB1))
  have HB := Lib.hid HB1
  unfold lkN
  show Calls Tryz.prog 88 #[.agg #[.int .i64 day, .slice fA fs.length fc, .slice cA cs.length cc], .string n, .int .i64 d] w (StE (if fndB fs n d = true then (fndV fs n d, 0) else (⟨#[]⟩, 30) : NR).1 (if fndB fs n d = true then (fndV fs n d, 0) else (⟨#[]⟩, 30) : NR).2 w)
  have HF2 : Hid (Calls Tryz.prog 28 #[.agg #[.slice fA fs.length fc, .slice cA cs.length cc], .string n, .int .i64 d] (w.alloc (.cells #[.int .i64 day, .slice fA fs.length fc, .slice cA cs.length cc] 84)) (FndE (fndV fs n d) (fndB fs n d) _)) := HF.out
  clear HF hin HB1 hr
  generalize fndV fs n d = v at *
  generalize fndB fs n d = bb at *
  cases bb
  all_goals
    simp only [Bool.false_eq_true, if_false, if_true]
    go_enter Tryz.func88, Tryz.ntmps88
    go_wp2_with (go_at_call 28; ((with_reducible refine HF2.out.mono ?_); rintro x w2 ⟨rfl, hb⟩; have HW2 := Lib.hid (btO HB.out hb); clear hb))
    go_ret2
    exact ⟨rfl, HW2.out⟩
set_option maxRecDepth 100000 in
theorem pp_sum (va vb : ByteArray) (v : ByteArray) (e : Int) (w : World) (ho : ∀ W, Below w.heap.size w W → Calls Tryz.prog 40 #[.string va, .string vb] W (StE v e W)) : Calls Tryz.prog 128 #[.agg #[.string va, .string vb]] w (StE v e w) := by
  have HB := Lib.hid (belO w (.cells #[.string va, .string vb] 125))
  have hr := heap_alloc_new w (.cells #[.string va, .string vb] 125)
  have c0 := row_cell (j := 0) hr rfl
  have c1 := row_cell (j := 1) hr rfl
  have HO := Lib.hid ho
  clear ho hr
  go_enter Tryz.func128, Tryz.ntmps128
  go_wp2_with (go_at_call 40; ((with_reducible refine (HO.out _ HB.out).mono ?_); rintro x w2 ⟨rfl, hb⟩; have e0 := cellO hb c0; have e1 := cellO hb c1; have HW2 := Lib.hid (btO HB.out hb); clear hb))
  all_goals go_ret2
  all_goals exact ⟨rfl, HW2.out⟩
set_option maxRecDepth 100000 in
theorem pp_difference (va vb : ByteArray) (v : ByteArray) (e : Int) (w : World) (ho : ∀ W, Below w.heap.size w W → Calls Tryz.prog 41 #[.string va, .string vb] W (StE v e W)) : Calls Tryz.prog 129 #[.agg #[.string va, .string vb]] w (StE v e w) := by
  have HB := Lib.hid (belO w (.cells #[.string va, .string vb] 125))
  have hr := heap_alloc_new w (.cells #[.string va, .string vb] 125)
  have c0 := row_cell (j := 0) hr rfl
  have c1 := row_cell (j := 1) hr rfl
  have HO := Lib.hid ho
  clear ho hr
  go_enter Tryz.func129, Tryz.ntmps129
  go_wp2_with (go_at_call 41; ((with_reducible refine (HO.out _ HB.out).mono ?_); rintro x w2 ⟨rfl, hb⟩; have e0 := cellO hb c0; have e1 := cellO hb c1; have HW2 := Lib.hid (btO HB.out hb); clear hb))
  all_goals go_ret2
  all_goals exact ⟨rfl, HW2.out⟩
set_option maxRecDepth 100000 in
theorem pp_product (va vb : ByteArray) (v : ByteArray) (e : Int) (w : World) (ho : ∀ W, Below w.heap.size w W → Calls Tryz.prog 42 #[.string va, .string vb] W (StE v e W)) : Calls Tryz.prog 130 #[.agg #[.string va, .string vb]] w (StE v e w) := by
  have HB := Lib.hid (belO w (.cells #[.string va, .string vb] 125))
  have hr := heap_alloc_new w (.cells #[.string va, .string vb] 125)
  have c0 := row_cell (j := 0) hr rfl
  have c1 := row_cell (j := 1) hr rfl
  have HO := Lib.hid ho
  clear ho hr
  go_enter Tryz.func130, Tryz.ntmps130
  go_wp2_with (go_at_call 42; ((with_reducible refine (HO.out _ HB.out).mono ?_); rintro x w2 ⟨rfl, hb⟩; have e0 := cellO hb c0; have e1 := cellO hb c1; have HW2 := Lib.hid (btO HB.out hb); clear hb))
  all_goals go_ret2
  all_goals exact ⟨rfl, HW2.out⟩
set_option maxRecDepth 100000 in
theorem pp_greater_b (va vb : ByteArray) (r : Int) (w : World) (hr : decide (r < 0) = true) (ho : ∀ W, Below w.heap.size w W → Calls Tryz.prog 39 #[.string va, .string vb] W (CmE r 0 W)) : Calls Tryz.prog 131 #[.agg #[.string va, .string vb]] w (StE vb 0 w) := by
  have HB := Lib.hid (belO w (.cells #[.string va, .string vb] 125))
  have hr := heap_alloc_new w (.cells #[.string va, .string vb] 125)
  have c0 := row_cell (j := 0) hr rfl
  have c1 := row_cell (j := 1) hr rfl
  have HO := Lib.hid ho
  clear ho hr
  go_enter Tryz.func131, Tryz.ntmps131
  go_wp2_with (go_at_call 39; ((with_reducible refine (HO.out _ HB.out).mono ?_); rintro x w2 ⟨rfl, hb⟩; have e0 := cellO hb c0; have e1 := cellO hb c1; have HW2 := Lib.hid (btO HB.out hb); clear hb))
  all_goals go_ret2
  all_goals exact ⟨rfl, HW2.out⟩
set_option maxRecDepth 100000 in
theorem pp_greater_a (va vb : ByteArray) (r : Int) (w : World) (hr : decide (r < 0) = false) (ho : ∀ W, Below w.heap.size w W → Calls Tryz.prog 39 #[.string va, .string vb] W (CmE r 0 W)) : Calls Tryz.prog 131 #[.agg #[.string va, .string vb]] w (StE va 0 w) := by
  have HB := Lib.hid (belO w (.cells #[.string va, .string vb] 125))
  have hr := heap_alloc_new w (.cells #[.string va, .string vb] 125)
  have c0 := row_cell (j := 0) hr rfl
  have c1 := row_cell (j := 1) hr rfl
  have HO := Lib.hid ho
  clear ho hr
  go_enter Tryz.func131, Tryz.ntmps131
  go_wp2_with (go_at_call 39; ((with_reducible refine (HO.out _ HB.out).mono ?_); rintro x w2 ⟨rfl, hb⟩; have e0 := cellO hb c0; have e1 := cellO hb c1; have HW2 := Lib.hid (btO HB.out hb); clear hb))
  all_goals go_ret2
  all_goals exact ⟨rfl, HW2.out⟩
set_option maxRecDepth 100000 in
theorem pp_greater_e (va vb : ByteArray) (r ea : Int) (w : World) (hea : (ea != 0) = true) (ho : ∀ W, Below w.heap.size w W → Calls Tryz.prog 39 #[.string va, .string vb] W (CmE r ea W)) : Calls Tryz.prog 131 #[.agg #[.string va, .string vb]] w (StE ⟨#[]⟩ ea w) := by
  have HB := Lib.hid (belO w (.cells #[.string va, .string vb] 125))
  have hr := heap_alloc_new w (.cells #[.string va, .string vb] 125)
  have c0 := row_cell (j := 0) hr rfl
  have c1 := row_cell (j := 1) hr rfl
  have HO := Lib.hid ho
  clear ho hr
  go_enter Tryz.func131, Tryz.ntmps131
  go_wp2_with (go_at_call 39; ((with_reducible refine (HO.out _ HB.out).mono ?_); rintro x w2 ⟨rfl, hb⟩; have e0 := cellO hb c0; have e1 := cellO hb c1; have HW2 := Lib.hid (btO HB.out hb); clear hb))
  all_goals go_ret2
  all_goals exact ⟨rfl, HW2.out⟩
set_option maxRecDepth 100000 in
theorem pp_smaller_b (va vb : ByteArray) (r : Int) (w : World) (hr : decide (0 < r) = true) (ho : ∀ W, Below w.heap.size w W → Calls Tryz.prog 39 #[.string va, .string vb] W (CmE r 0 W)) : Calls Tryz.prog 132 #[.agg #[.string va, .string vb]] w (StE vb 0 w) := by
  have HB := Lib.hid (belO w (.cells #[.string va, .string vb] 125))
  have hr := heap_alloc_new w (.cells #[.string va, .string vb] 125)
  have c0 := row_cell (j := 0) hr rfl
  have c1 := row_cell (j := 1) hr rfl
  have HO := Lib.hid ho
  clear ho hr
  go_enter Tryz.func132, Tryz.ntmps132
  go_wp2_with (go_at_call 39; ((with_reducible refine (HO.out _ HB.out).mono ?_); rintro x w2 ⟨rfl, hb⟩; have e0 := cellO hb c0; have e1 := cellO hb c1; have HW2 := Lib.hid (btO HB.out hb); clear hb))
  all_goals go_ret2
  all_goals exact ⟨rfl, HW2.out⟩
set_option maxRecDepth 100000 in
theorem pp_smaller_a (va vb : ByteArray) (r : Int) (w : World) (hr : decide (0 < r) = false) (ho : ∀ W, Below w.heap.size w W → Calls Tryz.prog 39 #[.string va, .string vb] W (CmE r 0 W)) : Calls Tryz.prog 132 #[.agg #[.string va, .string vb]] w (StE va 0 w) := by
  have HB := Lib.hid (belO w (.cells #[.string va, .string vb] 125))
  have hr := heap_alloc_new w (.cells #[.string va, .string vb] 125)
  have c0 := row_cell (j := 0) hr rfl
  have c1 := row_cell (j := 1) hr rfl
  have HO := Lib.hid ho
  clear ho hr
  go_enter Tryz.func132, Tryz.ntmps132
  go_wp2_with (go_at_call 39; ((with_reducible refine (HO.out _ HB.out).mono ?_); rintro x w2 ⟨rfl, hb⟩; have e0 := cellO hb c0; have e1 := cellO hb c1; have HW2 := Lib.hid (btO HB.out hb); clear hb))
  all_goals go_ret2
  all_goals exact ⟨rfl, HW2.out⟩
set_option maxRecDepth 100000 in
theorem pp_smaller_e (va vb : ByteArray) (r ea : Int) (w : World) (hea : (ea != 0) = true) (ho : ∀ W, Below w.heap.size w W → Calls Tryz.prog 39 #[.string va, .string vb] W (CmE r ea W)) : Calls Tryz.prog 132 #[.agg #[.string va, .string vb]] w (StE ⟨#[]⟩ ea w) := by
  have HB := Lib.hid (belO w (.cells #[.string va, .string vb] 125))
  have hr := heap_alloc_new w (.cells #[.string va, .string vb] 125)
  have c0 := row_cell (j := 0) hr rfl
  have c1 := row_cell (j := 1) hr rfl
  have HO := Lib.hid ho
  clear ho hr
  go_enter Tryz.func132, Tryz.ntmps132
  go_wp2_with (go_at_call 39; ((with_reducible refine (HO.out _ HB.out).mono ?_); rintro x w2 ⟨rfl, hb⟩; have e0 := cellO hb c0; have e1 := cellO hb c1; have HW2 := Lib.hid (btO HB.out hb); clear hb))
  all_goals go_ret2
  all_goals exact ⟨rfl, HW2.out⟩
set_option maxRecDepth 100000 in
theorem pp_less_t (va vb : ByteArray) (r : Int) (w : World) (hr : decide (r < 0) = true) (ho : ∀ W, Below w.heap.size w W → Calls Tryz.prog 39 #[.string va, .string vb] W (CmE r 0 W)) : Calls Tryz.prog 133 #[.agg #[.string va, .string vb]] w (TrE true 0 w) := by
  have HB := Lib.hid (belO w (.cells #[.string va, .string vb] 125))
  have hr := heap_alloc_new w (.cells #[.string va, .string vb] 125)
  have c0 := row_cell (j := 0) hr rfl
  have c1 := row_cell (j := 1) hr rfl
  have HO := Lib.hid ho
  clear ho hr
  go_enter Tryz.func133, Tryz.ntmps133
  go_wp2_with (go_at_call 39; ((with_reducible refine (HO.out _ HB.out).mono ?_); rintro x w2 ⟨rfl, hb⟩; have e0 := cellO hb c0; have e1 := cellO hb c1; have HW2 := Lib.hid (btO HB.out hb); clear hb))
  all_goals go_ret2
  all_goals exact ⟨rfl, HW2.out⟩
set_option maxRecDepth 100000 in
theorem pp_less_f (va vb : ByteArray) (r : Int) (w : World) (hr : decide (r < 0) = false) (ho : ∀ W, Below w.heap.size w W → Calls Tryz.prog 39 #[.string va, .string vb] W (CmE r 0 W)) : Calls Tryz.prog 133 #[.agg #[.string va, .string vb]] w (TrE false 0 w) := by
  have HB := Lib.hid (belO w (.cells #[.string va, .string vb] 125))
  have hr := heap_alloc_new w (.cells #[.string va, .string vb] 125)
  have c0 := row_cell (j := 0) hr rfl
  have c1 := row_cell (j := 1) hr rfl
  have HO := Lib.hid ho
  clear ho hr
  go_enter Tryz.func133, Tryz.ntmps133
  go_wp2_with (go_at_call 39; ((with_reducible refine (HO.out _ HB.out).mono ?_); rintro x w2 ⟨rfl, hb⟩; have e0 := cellO hb c0; have e1 := cellO hb c1; have HW2 := Lib.hid (btO HB.out hb); clear hb))
  all_goals go_ret2
  all_goals exact ⟨rfl, HW2.out⟩
set_option maxRecDepth 100000 in
theorem pp_less_e (va vb : ByteArray) (r ea : Int) (w : World) (hea : (ea == 0) = false) (ho : ∀ W, Below w.heap.size w W → Calls Tryz.prog 39 #[.string va, .string vb] W (CmE r ea W)) : Calls Tryz.prog 133 #[.agg #[.string va, .string vb]] w (TrE false ea w) := by
  have HB := Lib.hid (belO w (.cells #[.string va, .string vb] 125))
  have hr := heap_alloc_new w (.cells #[.string va, .string vb] 125)
  have c0 := row_cell (j := 0) hr rfl
  have c1 := row_cell (j := 1) hr rfl
  have HO := Lib.hid ho
  clear ho hr
  go_enter Tryz.func133, Tryz.ntmps133
  go_wp2_with (go_at_call 39; ((with_reducible refine (HO.out _ HB.out).mono ?_); rintro x w2 ⟨rfl, hb⟩; have e0 := cellO hb c0; have e1 := cellO hb c1; have HW2 := Lib.hid (btO HB.out hb); clear hb))
  all_goals go_ret2
  all_goals exact ⟨rfl, HW2.out⟩
set_option maxRecDepth 100000 in
theorem pp_equal_t (va vb : ByteArray) (r : Int) (w : World) (hr : (r == 0) = true) (ho : ∀ W, Below w.heap.size w W → Calls Tryz.prog 39 #[.string va, .string vb] W (CmE r 0 W)) : Calls Tryz.prog 134 #[.agg #[.string va, .string vb]] w (TrE true 0 w) := by
  have HB := Lib.hid (belO w (.cells #[.string va, .string vb] 125))
  have hr := heap_alloc_new w (.cells #[.string va, .string vb] 125)
  have c0 := row_cell (j := 0) hr rfl
  have c1 := row_cell (j := 1) hr rfl
  have HO := Lib.hid ho
  clear ho hr
  go_enter Tryz.func134, Tryz.ntmps134
  go_wp2_with (go_at_call 39; ((with_reducible refine (HO.out _ HB.out).mono ?_); rintro x w2 ⟨rfl, hb⟩; have e0 := cellO hb c0; have e1 := cellO hb c1; have HW2 := Lib.hid (btO HB.out hb); clear hb))
  all_goals go_ret2
  all_goals exact ⟨rfl, HW2.out⟩
set_option maxRecDepth 100000 in
theorem pp_equal_f (va vb : ByteArray) (r : Int) (w : World) (hr : (r == 0) = false) (ho : ∀ W, Below w.heap.size w W → Calls Tryz.prog 39 #[.string va, .string vb] W (CmE r 0 W)) : Calls Tryz.prog 134 #[.agg #[.string va, .string vb]] w (TrE false 0 w) := by
  have HB := Lib.hid (belO w (.cells #[.string va, .string vb] 125))
  have hr := heap_alloc_new w (.cells #[.string va, .string vb] 125)
  have c0 := row_cell (j := 0) hr rfl
  have c1 := row_cell (j := 1) hr rfl
  have HO := Lib.hid ho
  clear ho hr
  go_enter Tryz.func134, Tryz.ntmps134
  go_wp2_with (go_at_call 39; ((with_reducible refine (HO.out _ HB.out).mono ?_); rintro x w2 ⟨rfl, hb⟩; have e0 := cellO hb c0; have e1 := cellO hb c1; have HW2 := Lib.hid (btO HB.out hb); clear hb))
  all_goals go_ret2
  all_goals exact ⟨rfl, HW2.out⟩
set_option maxRecDepth 100000 in
theorem pp_equal_e (va vb : ByteArray) (r ea : Int) (w : World) (hea : (ea == 0) = false) (ho : ∀ W, Below w.heap.size w W → Calls Tryz.prog 39 #[.string va, .string vb] W (CmE r ea W)) : Calls Tryz.prog 134 #[.agg #[.string va, .string vb]] w (TrE false ea w) := by
  have HB := Lib.hid (belO w (.cells #[.string va, .string vb] 125))
  have hr := heap_alloc_new w (.cells #[.string va, .string vb] 125)
  have c0 := row_cell (j := 0) hr rfl
  have c1 := row_cell (j := 1) hr rfl
  have HO := Lib.hid ho
  clear ho hr
  go_enter Tryz.func134, Tryz.ntmps134
  go_wp2_with (go_at_call 39; ((with_reducible refine (HO.out _ HB.out).mono ?_); rintro x w2 ⟨rfl, hb⟩; have e0 := cellO hb c0; have e1 := cellO hb c1; have HW2 := Lib.hid (btO HB.out hb); clear hb))
  all_goals go_ret2
  all_goals exact ⟨rfl, HW2.out⟩
end Go.Proofs.YtnomccgdajcfiaaGreatDoor
/- Layer 8: the program's evaluation: pair, chosen, both, either, not. -/
namespace Go.Proofs.YtnomccgdajcfiaaGreatDoor
open Go Go.RowKit Go.Maps Go.BigFrame
set_option maxRecDepth 100000 in
set_option maxHeartbeats 6400000 in
theorem ppair_e1 (kk : Int) (va : ByteArray) (ea : Int) (rr nn : ByteArray) (dd : Int) (A : Option Addr) (c : Nat) (x y : Ex) (E : Ev) (day : Int) (w : World) (hin : Ex.In w (.mk kk rr nn dd A c [x, y])) (hE : E.Inv w) (hx : ∀ W, x.In W → E.Inv W → Calls Tryz.prog 51 #[evV day E, x.val] W (fun e w' => e = .returned (.tuple #[.string va, .int .i64 ea]) ∧ Below W.heap.size W w')) (hea : (ea != 0) = true) :
    Calls Tryz.prog 90 #[evV day E, Ex.val (.mk kk rr nn dd A c [x, y])] w (PrE ⟨#[]⟩ ⟨#[]⟩ ea w) := by
  obtain ⟨b, o, rfl, ix, qx, iy, qy⟩ := hin.ptc2
  obtain ⟨fA, fs, fc, cA, cs, cc⟩ := E
  obtain ⟨w0, hw0, hB, hS⟩ := pv_begin w day kk rr nn dd (some ⟨b, o, none⟩) 2 c fA fs.length fc cA cs.length cc
  have hS := hS.below (belO _ (.cells #[.string ⟨#[]⟩, .string ⟨#[]⟩] 125))
  have hB := btO hB (belO _ (.cells #[.string ⟨#[]⟩, .string ⟨#[]⟩] 125))
  have hR := heap_alloc_new w0 (.cells #[.string ⟨#[]⟩, .string ⟨#[]⟩] 125)
  have hw2 : w0.heap.size = w.heap.size + 1 + 1 := by rw [← hw0, World.size_alloc, World.size_alloc]
  rw [hw2] at hR
  obtain ⟨w1, hw1⟩ : ∃ w1, w0.alloc (.cells #[.string ⟨#[]⟩, .string ⟨#[]⟩] 125) = w1 := ⟨_, rfl⟩
  rw [hw1] at hB hS hR
  rw [← hw0] at hw1
  clear hw0 hw2
  have HB := Lib.hid hB
  have HR := Lib.hid hR
  have HG := Lib.hid (fun W (hW : Below w1.heap.size w1 W) => And.intro (hS.below hW) (And.intro (qx.below (btO hB hW)) (qy.below (btO hB hW))))
  have Hx := Lib.hid (fun W (hW : Below w1.heap.size w1 W) => hx W (ix.below (btO hB hW)) (hE.below (btO hB hW)))
  have HW1 := Lib.hid (Below.refl w1.heap.size w1)
  show Calls Tryz.prog 90 #[.agg #[.int .i64 day, .slice fA fs.length fc, .slice cA cs.length cc], .agg #[.int .u8 kk, .string rr, .string nn, .int .i64 dd, .slice (some ⟨b, o, none⟩) 2 c]] w _
  clear hin hE hB hS hR hx ix iy qx qy
  obtain ⟨⟨e0, e1, e2, c0, c1, c2, c3, c4⟩, ⟨px0, px1, px2, px3, px4⟩, ⟨py0, py1, py2, py3, py4⟩⟩ := HG.out _ HW1.out
  have hr := (HW1.out.block _ (lt_of_block HR.out)).trans HR.out
  have r0 := row_cell (j := 0) hr rfl
  have s0 := row_frz (j := 0) hr
  have r1 := row_cell (j := 1) hr rfl
  have s1 := row_frz (j := 1) hr
  clear hr
  go_enter Tryz.func90, Tryz.ntmps90
  go_wp2_with (fail)
  obtain ⟨gS, gx, gy⟩ := HG.out _ HW1.out
  obtain ⟨ze0, ze1, ze2, zc0, zc1, zc2, zc3, zc4⟩ := gS.zs
  obtain ⟨zpx0, zpx1, zpx2, zpx3, zpx4⟩ := gx.zs
  obtain ⟨zpy0, zpy1, zpy2, zpy3, zpy4⟩ := gy.zs
  clear e0 e1 e2 c0 c1 c2 c3 c4 px0 px1 px2 px3 px4 py0 py1 py2 py3 py4 r0 r1 s0 s1 gS gx gy
  clear hw1
  refine wp_region_bel (by kernel_rfl) (by kernel_rfl) ?_
  repeat (go_big_quiet_step (first
    | (go_at_call 51; with_reducible exact Bel.calls (fun W hW => Hx.out W (btO HW1.out hW)) _)))
  refine wpQuiet_nil ?_
  rintro _ ⟨zz, rfl⟩
  clear ze0 ze1 ze2 zc0 zc1 zc2 zc3 zc4 zpx0 zpx1 zpx2 zpx3 zpx4 zpy0 zpy1 zpy2 zpy3 zpy4
  have HW2 := Lib.hid (btO HW1.out zz.2)
  generalize zz.1 = w2 at *
  obtain ⟨⟨e0, e1, e2, c0, c1, c2, c3, c4⟩, ⟨px0, px1, px2, px3, px4⟩, ⟨py0, py1, py2, py3, py4⟩⟩ := HG.out _ HW2.out
  have hr := (HW2.out.block _ (lt_of_block HR.out)).trans HR.out
  have r0 := row_cell (j := 0) hr rfl
  have s0 := row_frz (j := 0) hr
  have r1 := row_cell (j := 1) hr rfl
  have s1 := row_frz (j := 1) hr
  clear hr
  go_wp2_with (fail)
  all_goals refine bodyPost_ret (v := .tuple #[.agg #[.string ⟨#[]⟩, .string ⟨#[]⟩], .int .i64 ea]) (results_cell_tmp rfl _ _ (w.heap.size + 1 + 1) 125 _ (0, 0) _ (.int .i64 ea) rfl rfl (sc2_row ((HW2.out.block _ (lt_of_block HR.out)).trans HR.out)) Tryz.underlying125 (by kernel_rfl) (by kernel_rfl)) rfl ?_
  all_goals exact ⟨rfl, ((btO HB.out HW2.out).setCell (p := ⟨w.heap.size + 1 + 1, 0, none⟩) (by show _ ≤ w.heap.size + 1 + 1; omega) _).setCell (p := ⟨w.heap.size + 1 + 1, 1, none⟩) (by show _ ≤ w.heap.size + 1 + 1; omega) _⟩
set_option maxRecDepth 100000 in
set_option maxHeartbeats 6400000 in
theorem ppair_e2 (kk : Int) (va vb : ByteArray) (ea : Int) (rr nn : ByteArray) (dd : Int) (A : Option Addr) (c : Nat) (x y : Ex) (E : Ev) (day : Int) (w : World) (hin : Ex.In w (.mk kk rr nn dd A c [x, y])) (hE : E.Inv w) (hx : ∀ W, x.In W → E.Inv W → Calls Tryz.prog 51 #[evV day E, x.val] W (fun e w' => e = .returned (.tuple #[.string va, .int .i64 0]) ∧ Below W.heap.size W w')) (hy : ∀ W, y.In W → E.Inv W → Calls Tryz.prog 51 #[evV day E, y.val] W (fun e w' => e = .returned (.tuple #[.string vb, .int .i64 ea]) ∧ Below W.heap.size W w')) (hea : (ea != 0) = true) :
    Calls Tryz.prog 90 #[evV day E, Ex.val (.mk kk rr nn dd A c [x, y])] w (PrE ⟨#[]⟩ ⟨#[]⟩ ea w) := by
  obtain ⟨b, o, rfl, ix, qx, iy, qy⟩ := hin.ptc2
  obtain ⟨fA, fs, fc, cA, cs, cc⟩ := E
  obtain ⟨w0, hw0, hB, hS⟩ := pv_begin w day kk rr nn dd (some ⟨b, o, none⟩) 2 c fA fs.length fc cA cs.length cc
  have hS := hS.below (belO _ (.cells #[.string ⟨#[]⟩, .string ⟨#[]⟩] 125))
  have hB := btO hB (belO _ (.cells #[.string ⟨#[]⟩, .string ⟨#[]⟩] 125))
  have hR := heap_alloc_new w0 (.cells #[.string ⟨#[]⟩, .string ⟨#[]⟩] 125)
  have hw2 : w0.heap.size = w.heap.size + 1 + 1 := by rw [← hw0, World.size_alloc, World.size_alloc]
  rw [hw2] at hR
  obtain ⟨w1, hw1⟩ : ∃ w1, w0.alloc (.cells #[.string ⟨#[]⟩, .string ⟨#[]⟩] 125) = w1 := ⟨_, rfl⟩
  rw [hw1] at hB hS hR
  rw [← hw0] at hw1
  clear hw0 hw2
  have HB := Lib.hid hB
  have HR := Lib.hid hR
  have HG := Lib.hid (fun W (hW : Below w1.heap.size w1 W) => And.intro (hS.below hW) (And.intro (qx.below (btO hB hW)) (qy.below (btO hB hW))))
  have Hx := Lib.hid (fun W (hW : Below w1.heap.size w1 W) => hx W (ix.below (btO hB hW)) (hE.below (btO hB hW)))
  have Hy := Lib.hid (fun W (hW : Below w1.heap.size w1 W) => hy W (iy.below (btO hB hW)) (hE.below (btO hB hW)))
  have HW1 := Lib.hid (Below.refl w1.heap.size w1)
  show Calls Tryz.prog 90 #[.agg #[.int .i64 day, .slice fA fs.length fc, .slice cA cs.length cc], .agg #[.int .u8 kk, .string rr, .string nn, .int .i64 dd, .slice (some ⟨b, o, none⟩) 2 c]] w _
  clear hin hE hB hS hR hx hy ix iy qx qy
  obtain ⟨⟨e0, e1, e2, c0, c1, c2, c3, c4⟩, ⟨px0, px1, px2, px3, px4⟩, ⟨py0, py1, py2, py3, py4⟩⟩ := HG.out _ HW1.out
  have hr := (HW1.out.block _ (lt_of_block HR.out)).trans HR.out
  have r0 := row_cell (j := 0) hr rfl
  have s0 := row_frz (j := 0) hr
  have r1 := row_cell (j := 1) hr rfl
  have s1 := row_frz (j := 1) hr
  clear hr
  go_enter Tryz.func90, Tryz.ntmps90
  go_wp2_with (fail)
  obtain ⟨gS, gx, gy⟩ := HG.out _ HW1.out
  obtain ⟨ze0, ze1, ze2, zc0, zc1, zc2, zc3, zc4⟩ := gS.zs
  obtain ⟨zpx0, zpx1, zpx2, zpx3, zpx4⟩ := gx.zs
  obtain ⟨zpy0, zpy1, zpy2, zpy3, zpy4⟩ := gy.zs
  clear e0 e1 e2 c0 c1 c2 c3 c4 px0 px1 px2 px3 px4 py0 py1 py2 py3 py4 r0 r1 s0 s1 gS gx gy
  clear hw1
  refine wp_region_bel (by kernel_rfl) (by kernel_rfl) ?_
  repeat (go_big_quiet_step (first
    | (go_at_call 51; with_reducible exact Bel.calls (fun W hW => Hx.out W (btO HW1.out hW)) _)))
  refine wpQuiet_nil ?_
  rintro _ ⟨zz, rfl⟩
  clear ze0 ze1 ze2 zc0 zc1 zc2 zc3 zc4 zpx0 zpx1 zpx2 zpx3 zpx4 zpy0 zpy1 zpy2 zpy3 zpy4
  have HW2 := Lib.hid (btO HW1.out zz.2)
  generalize zz.1 = w2 at *
  obtain ⟨⟨e0, e1, e2, c0, c1, c2, c3, c4⟩, ⟨px0, px1, px2, px3, px4⟩, ⟨py0, py1, py2, py3, py4⟩⟩ := HG.out _ HW2.out
  have hr := (HW2.out.block _ (lt_of_block HR.out)).trans HR.out
  have r0 := row_cell (j := 0) hr rfl
  have s0 := row_frz (j := 0) hr
  have r1 := row_cell (j := 1) hr rfl
  have s1 := row_frz (j := 1) hr
  clear hr
  go_wp2_with (fail)
  obtain ⟨gS, gx, gy⟩ := HG.out _ HW2.out
  obtain ⟨ze0, ze1, ze2, zc0, zc1, zc2, zc3, zc4⟩ := gS.zs
  obtain ⟨zpx0, zpx1, zpx2, zpx3, zpx4⟩ := gx.zs
  obtain ⟨zpy0, zpy1, zpy2, zpy3, zpy4⟩ := gy.zs
  clear e0 e1 e2 c0 c1 c2 c3 c4 px0 px1 px2 px3 px4 py0 py1 py2 py3 py4 r0 r1 s0 s1 gS gx gy
  refine wp_region_bel (by kernel_rfl) (by kernel_rfl) ?_
  repeat (go_big_quiet_step (first
    | (go_at_call 51; with_reducible exact Bel.calls (fun W hW => Hy.out W (btO HW2.out hW)) _)))
  refine wpQuiet_nil ?_
  rintro _ ⟨zz, rfl⟩
  clear ze0 ze1 ze2 zc0 zc1 zc2 zc3 zc4 zpx0 zpx1 zpx2 zpx3 zpx4 zpy0 zpy1 zpy2 zpy3 zpy4
  have HW3 := Lib.hid (btO HW2.out zz.2)
  generalize zz.1 = w3 at *
  obtain ⟨⟨e0, e1, e2, c0, c1, c2, c3, c4⟩, ⟨px0, px1, px2, px3, px4⟩, ⟨py0, py1, py2, py3, py4⟩⟩ := HG.out _ HW3.out
  have hr := (HW3.out.block _ (lt_of_block HR.out)).trans HR.out
  have r0 := row_cell (j := 0) hr rfl
  have s0 := row_frz (j := 0) hr
  have r1 := row_cell (j := 1) hr rfl
  have s1 := row_frz (j := 1) hr
  clear hr
  go_wp2_with (fail)
  all_goals refine bodyPost_ret (v := .tuple #[.agg #[.string ⟨#[]⟩, .string ⟨#[]⟩], .int .i64 ea]) (results_cell_tmp rfl _ _ (w.heap.size + 1 + 1) 125 _ (0, 0) _ (.int .i64 ea) rfl rfl (sc2_row ((HW3.out.block _ (lt_of_block HR.out)).trans HR.out)) Tryz.underlying125 (by kernel_rfl) (by kernel_rfl)) rfl ?_
  all_goals exact ⟨rfl, ((btO HB.out HW3.out).setCell (p := ⟨w.heap.size + 1 + 1, 0, none⟩) (by show _ ≤ w.heap.size + 1 + 1; omega) _).setCell (p := ⟨w.heap.size + 1 + 1, 1, none⟩) (by show _ ≤ w.heap.size + 1 + 1; omega) _⟩
set_option maxRecDepth 100000 in
set_option maxHeartbeats 6400000 in
theorem ppair_ok (kk : Int) (va vb : ByteArray) (rr nn : ByteArray) (dd : Int) (A : Option Addr) (c : Nat) (x y : Ex) (E : Ev) (day : Int) (w : World) (hin : Ex.In w (.mk kk rr nn dd A c [x, y])) (hE : E.Inv w) (hx : ∀ W, x.In W → E.Inv W → Calls Tryz.prog 51 #[evV day E, x.val] W (fun e w' => e = .returned (.tuple #[.string va, .int .i64 0]) ∧ Below W.heap.size W w')) (hy : ∀ W, y.In W → E.Inv W → Calls Tryz.prog 51 #[evV day E, y.val] W (fun e w' => e = .returned (.tuple #[.string vb, .int .i64 0]) ∧ Below W.heap.size W w')) :
    Calls Tryz.prog 90 #[evV day E, Ex.val (.mk kk rr nn dd A c [x, y])] w (PrE va vb 0 w) := by
  obtain ⟨b, o, rfl, ix, qx, iy, qy⟩ := hin.ptc2
  obtain ⟨fA, fs, fc, cA, cs, cc⟩ := E
  obtain ⟨w0, hw0, hB, hS⟩ := pv_begin w day kk rr nn dd (some ⟨b, o, none⟩) 2 c fA fs.length fc cA cs.length cc
  have hS := hS.below (belO _ (.cells #[.string ⟨#[]⟩, .string ⟨#[]⟩] 125))
  have hB := btO hB (belO _ (.cells #[.string ⟨#[]⟩, .string ⟨#[]⟩] 125))
  have hR := heap_alloc_new w0 (.cells #[.string ⟨#[]⟩, .string ⟨#[]⟩] 125)
  have hw2 : w0.heap.size = w.heap.size + 1 + 1 := by rw [← hw0, World.size_alloc, World.size_alloc]
  rw [hw2] at hR
  obtain ⟨w1, hw1⟩ : ∃ w1, w0.alloc (.cells #[.string ⟨#[]⟩, .string ⟨#[]⟩] 125) = w1 := ⟨_, rfl⟩
  rw [hw1] at hB hS hR
  rw [← hw0] at hw1
  clear hw0 hw2
  have HB := Lib.hid hB
  have HR := Lib.hid hR
  have HG := Lib.hid (fun W (hW : Below w1.heap.size w1 W) => And.intro (hS.below hW) (And.intro (qx.below (btO hB hW)) (qy.below (btO hB hW))))
  have Hx := Lib.hid (fun W (hW : Below w1.heap.size w1 W) => hx W (ix.below (btO hB hW)) (hE.below (btO hB hW)))
  have Hy := Lib.hid (fun W (hW : Below w1.heap.size w1 W) => hy W (iy.below (btO hB hW)) (hE.below (btO hB hW)))
  have HW1 := Lib.hid (Below.refl w1.heap.size w1)
  show Calls Tryz.prog 90 #[.agg #[.int .i64 day, .slice fA fs.length fc, .slice cA cs.length cc], .agg #[.int .u8 kk, .string rr, .string nn, .int .i64 dd, .slice (some ⟨b, o, none⟩) 2 c]] w _
  clear hin hE hB hS hR hx hy ix iy qx qy
  obtain ⟨⟨e0, e1, e2, c0, c1, c2, c3, c4⟩, ⟨px0, px1, px2, px3, px4⟩, ⟨py0, py1, py2, py3, py4⟩⟩ := HG.out _ HW1.out
  have hr := (HW1.out.block _ (lt_of_block HR.out)).trans HR.out
  have r0 := row_cell (j := 0) hr rfl
  have s0 := row_frz (j := 0) hr
  have r1 := row_cell (j := 1) hr rfl
  have s1 := row_frz (j := 1) hr
  clear hr
  go_enter Tryz.func90, Tryz.ntmps90
  go_wp2_with (fail)
  obtain ⟨gS, gx, gy⟩ := HG.out _ HW1.out
  obtain ⟨ze0, ze1, ze2, zc0, zc1, zc2, zc3, zc4⟩ := gS.zs
  obtain ⟨zpx0, zpx1, zpx2, zpx3, zpx4⟩ := gx.zs
  obtain ⟨zpy0, zpy1, zpy2, zpy3, zpy4⟩ := gy.zs
  clear e0 e1 e2 c0 c1 c2 c3 c4 px0 px1 px2 px3 px4 py0 py1 py2 py3 py4 r0 r1 s0 s1 gS gx gy
  clear hw1
  refine wp_region_bel (by kernel_rfl) (by kernel_rfl) ?_
  repeat (go_big_quiet_step (first
    | (go_at_call 51; with_reducible exact Bel.calls (fun W hW => Hx.out W (btO HW1.out hW)) _)))
  refine wpQuiet_nil ?_
  rintro _ ⟨zz, rfl⟩
  clear ze0 ze1 ze2 zc0 zc1 zc2 zc3 zc4 zpx0 zpx1 zpx2 zpx3 zpx4 zpy0 zpy1 zpy2 zpy3 zpy4
  have HW2 := Lib.hid (btO HW1.out zz.2)
  generalize zz.1 = w2 at *
  obtain ⟨⟨e0, e1, e2, c0, c1, c2, c3, c4⟩, ⟨px0, px1, px2, px3, px4⟩, ⟨py0, py1, py2, py3, py4⟩⟩ := HG.out _ HW2.out
  have hr := (HW2.out.block _ (lt_of_block HR.out)).trans HR.out
  have r0 := row_cell (j := 0) hr rfl
  have s0 := row_frz (j := 0) hr
  have r1 := row_cell (j := 1) hr rfl
  have s1 := row_frz (j := 1) hr
  clear hr
  go_wp2_with (fail)
  obtain ⟨gS, gx, gy⟩ := HG.out _ HW2.out
  obtain ⟨ze0, ze1, ze2, zc0, zc1, zc2, zc3, zc4⟩ := gS.zs
  obtain ⟨zpx0, zpx1, zpx2, zpx3, zpx4⟩ := gx.zs
  obtain ⟨zpy0, zpy1, zpy2, zpy3, zpy4⟩ := gy.zs
  clear e0 e1 e2 c0 c1 c2 c3 c4 px0 px1 px2 px3 px4 py0 py1 py2 py3 py4 r0 r1 s0 s1 gS gx gy
  refine wp_region_bel (by kernel_rfl) (by kernel_rfl) ?_
  repeat (go_big_quiet_step (first
    | (go_at_call 51; with_reducible exact Bel.calls (fun W hW => Hy.out W (btO HW2.out hW)) _)))
  refine wpQuiet_nil ?_
  rintro _ ⟨zz, rfl⟩
  clear ze0 ze1 ze2 zc0 zc1 zc2 zc3 zc4 zpx0 zpx1 zpx2 zpx3 zpx4 zpy0 zpy1 zpy2 zpy3 zpy4
  have HW3 := Lib.hid (btO HW2.out zz.2)
  generalize zz.1 = w3 at *
  obtain ⟨⟨e0, e1, e2, c0, c1, c2, c3, c4⟩, ⟨px0, px1, px2, px3, px4⟩, ⟨py0, py1, py2, py3, py4⟩⟩ := HG.out _ HW3.out
  have hr := (HW3.out.block _ (lt_of_block HR.out)).trans HR.out
  have r0 := row_cell (j := 0) hr rfl
  have s0 := row_frz (j := 0) hr
  have r1 := row_cell (j := 1) hr rfl
  have s1 := row_frz (j := 1) hr
  clear hr
  go_wp2_with (fail)
  all_goals refine bodyPost_ret (v := .tuple #[.agg #[.string va, .string vb], .int .i64 0]) (results_cell_tmp rfl _ _ (w.heap.size + 1 + 1) 125 _ (0, 0) _ (.int .i64 0) rfl rfl (sc2_row ((HW3.out.block _ (lt_of_block HR.out)).trans HR.out)) Tryz.underlying125 (by kernel_rfl) (by kernel_rfl)) rfl ?_
  all_goals exact ⟨rfl, ((btO HB.out HW3.out).setCell (p := ⟨w.heap.size + 1 + 1, 0, none⟩) (by show _ ≤ w.heap.size + 1 + 1; omega) _).setCell (p := ⟨w.heap.size + 1 + 1, 1, none⟩) (by show _ ≤ w.heap.size + 1 + 1; omega) _⟩
set_option maxRecDepth 100000 in
set_option maxHeartbeats 6400000 in
theorem pcho_e (ba : Bool) (ea : Int) (rr nn : ByteArray) (dd : Int) (A : Option Addr) (c : Nat) (x y z : Ex) (E : Ev) (day : Int) (w : World) (hin : Ex.In w (.mk 9 rr nn dd A c [x, y, z])) (hE : E.Inv w) (hx : ∀ W, x.In W → E.Inv W → Calls Tryz.prog 52 #[evV day E, x.val] W (fun e w' => e = .returned (.tuple #[.bool ba, .int .i64 ea]) ∧ Below W.heap.size W w')) (hea : (ea != 0) = true) :
    Calls Tryz.prog 89 #[evV day E, Ex.val (.mk 9 rr nn dd A c [x, y, z])] w (StE ⟨#[]⟩ ea w) := by
  obtain ⟨b, o, rfl, ix, qx, iy, qy, iz, qz⟩ := hin.ptc3
  obtain ⟨fA, fs, fc, cA, cs, cc⟩ := E
  obtain ⟨w1, hw1, hB, hS⟩ := pv_begin w day 9 rr nn dd (some ⟨b, o, none⟩) 3 c fA fs.length fc cA cs.length cc
  have HB := Lib.hid hB
  have HG := Lib.hid (fun W (hW : Below w1.heap.size w1 W) => And.intro (hS.below hW) (And.intro (qx.below (btO hB hW)) (And.intro (qy.below (btO hB hW)) (qz.below (btO hB hW)))))
  have Hx := Lib.hid (fun W (hW : Below w1.heap.size w1 W) => hx W (ix.below (btO hB hW)) (hE.below (btO hB hW)))
  have HW1 := Lib.hid (Below.refl w1.heap.size w1)
  show Calls Tryz.prog 89 #[.agg #[.int .i64 day, .slice fA fs.length fc, .slice cA cs.length cc], .agg #[.int .u8 9, .string rr, .string nn, .int .i64 dd, .slice (some ⟨b, o, none⟩) 3 c]] w _
  clear hin hE hB hS hx ix iy iz qx qy qz
  obtain ⟨⟨e0, e1, e2, c0, c1, c2, c3, c4⟩, ⟨px0, px1, px2, px3, px4⟩, ⟨py0, py1, py2, py3, py4⟩, ⟨pz0, pz1, pz2, pz3, pz4⟩⟩ := HG.out _ HW1.out
  go_enter Tryz.func89, Tryz.ntmps89
  go_wp2_with (fail)
  obtain ⟨gS, gx, gy, gz⟩ := HG.out _ HW1.out
  obtain ⟨ze0, ze1, ze2, zc0, zc1, zc2, zc3, zc4⟩ := gS.zs
  obtain ⟨zpx0, zpx1, zpx2, zpx3, zpx4⟩ := gx.zs
  obtain ⟨zpy0, zpy1, zpy2, zpy3, zpy4⟩ := gy.zs
  obtain ⟨zpz0, zpz1, zpz2, zpz3, zpz4⟩ := gz.zs
  clear e0 e1 e2 c0 c1 c2 c3 c4 px0 px1 px2 px3 px4 py0 py1 py2 py3 py4 pz0 pz1 pz2 pz3 pz4 gS gx gy gz
  clear hw1
  refine wp_region_bel (by kernel_rfl) (by kernel_rfl) ?_
  repeat (go_big_quiet_step (first
    | (go_at_call 52; with_reducible exact Bel.calls (fun W hW => Hx.out W (btO HW1.out hW)) _)))
  refine wpQuiet_nil ?_
  rintro _ ⟨zz, rfl⟩
  clear ze0 ze1 ze2 zc0 zc1 zc2 zc3 zc4 zpx0 zpx1 zpx2 zpx3 zpx4 zpy0 zpy1 zpy2 zpy3 zpy4 zpz0 zpz1 zpz2 zpz3 zpz4
  have HW2 := Lib.hid (btO HW1.out zz.2)
  generalize zz.1 = w2 at *
  obtain ⟨⟨e0, e1, e2, c0, c1, c2, c3, c4⟩, ⟨px0, px1, px2, px3, px4⟩, ⟨py0, py1, py2, py3, py4⟩, ⟨pz0, pz1, pz2, pz3, pz4⟩⟩ := HG.out _ HW2.out
  go_wp2_with (fail)
  all_goals go_ret2
  all_goals exact ⟨rfl, btO HB.out HW2.out⟩
set_option maxRecDepth 100000 in
set_option maxHeartbeats 6400000 in
theorem pcho_t (va : ByteArray) (ea : Int) (rr nn : ByteArray) (dd : Int) (A : Option Addr) (c : Nat) (x y z : Ex) (E : Ev) (day : Int) (w : World) (hin : Ex.In w (.mk 9 rr nn dd A c [x, y, z])) (hE : E.Inv w) (hx : ∀ W, x.In W → E.Inv W → Calls Tryz.prog 52 #[evV day E, x.val] W (fun e w' => e = .returned (.tuple #[.bool true, .int .i64 0]) ∧ Below W.heap.size W w')) (hy : ∀ W, y.In W → E.Inv W → Calls Tryz.prog 51 #[evV day E, y.val] W (fun e w' => e = .returned (.tuple #[.string va, .int .i64 ea]) ∧ Below W.heap.size W w')) :
    Calls Tryz.prog 89 #[evV day E, Ex.val (.mk 9 rr nn dd A c [x, y, z])] w (StE va ea w) := by
  obtain ⟨b, o, rfl, ix, qx, iy, qy, iz, qz⟩ := hin.ptc3
  obtain ⟨fA, fs, fc, cA, cs, cc⟩ := E
  obtain ⟨w1, hw1, hB, hS⟩ := pv_begin w day 9 rr nn dd (some ⟨b, o, none⟩) 3 c fA fs.length fc cA cs.length cc
  have HB := Lib.hid hB
  have HG := Lib.hid (fun W (hW : Below w1.heap.size w1 W) => And.intro (hS.below hW) (And.intro (qx.below (btO hB hW)) (And.intro (qy.below (btO hB hW)) (qz.below (btO hB hW)))))
  have Hx := Lib.hid (fun W (hW : Below w1.heap.size w1 W) => hx W (ix.below (btO hB hW)) (hE.below (btO hB hW)))
  have Hy := Lib.hid (fun W (hW : Below w1.heap.size w1 W) => hy W (iy.below (btO hB hW)) (hE.below (btO hB hW)))
  have HW1 := Lib.hid (Below.refl w1.heap.size w1)
  show Calls Tryz.prog 89 #[.agg #[.int .i64 day, .slice fA fs.length fc, .slice cA cs.length cc], .agg #[.int .u8 9, .string rr, .string nn, .int .i64 dd, .slice (some ⟨b, o, none⟩) 3 c]] w _
  clear hin hE hB hS hx hy ix iy iz qx qy qz
  obtain ⟨⟨e0, e1, e2, c0, c1, c2, c3, c4⟩, ⟨px0, px1, px2, px3, px4⟩, ⟨py0, py1, py2, py3, py4⟩, ⟨pz0, pz1, pz2, pz3, pz4⟩⟩ := HG.out _ HW1.out
  go_enter Tryz.func89, Tryz.ntmps89
  go_wp2_with (fail)
  obtain ⟨gS, gx, gy, gz⟩ := HG.out _ HW1.out
  obtain ⟨ze0, ze1, ze2, zc0, zc1, zc2, zc3, zc4⟩ := gS.zs
  obtain ⟨zpx0, zpx1, zpx2, zpx3, zpx4⟩ := gx.zs
  obtain ⟨zpy0, zpy1, zpy2, zpy3, zpy4⟩ := gy.zs
  obtain ⟨zpz0, zpz1, zpz2, zpz3, zpz4⟩ := gz.zs
  clear e0 e1 e2 c0 c1 c2 c3 c4 px0 px1 px2 px3 px4 py0 py1 py2 py3 py4 pz0 pz1 pz2 pz3 pz4 gS gx gy gz
  clear hw1
  refine wp_region_bel (by kernel_rfl) (by kernel_rfl) ?_
  repeat (go_big_quiet_step (first
    | (go_at_call 52; with_reducible exact Bel.calls (fun W hW => Hx.out W (btO HW1.out hW)) _)))
  refine wpQuiet_nil ?_
  rintro _ ⟨zz, rfl⟩
  clear ze0 ze1 ze2 zc0 zc1 zc2 zc3 zc4 zpx0 zpx1 zpx2 zpx3 zpx4 zpy0 zpy1 zpy2 zpy3 zpy4 zpz0 zpz1 zpz2 zpz3 zpz4
  have HW2 := Lib.hid (btO HW1.out zz.2)
  generalize zz.1 = w2 at *
  obtain ⟨⟨e0, e1, e2, c0, c1, c2, c3, c4⟩, ⟨px0, px1, px2, px3, px4⟩, ⟨py0, py1, py2, py3, py4⟩, ⟨pz0, pz1, pz2, pz3, pz4⟩⟩ := HG.out _ HW2.out
  go_wp2_with (fail)
  obtain ⟨gS, gx, gy, gz⟩ := HG.out _ HW2.out
  obtain ⟨ze0, ze1, ze2, zc0, zc1, zc2, zc3, zc4⟩ := gS.zs
  obtain ⟨zpx0, zpx1, zpx2, zpx3, zpx4⟩ := gx.zs
  obtain ⟨zpy0, zpy1, zpy2, zpy3, zpy4⟩ := gy.zs
  obtain ⟨zpz0, zpz1, zpz2, zpz3, zpz4⟩ := gz.zs
  clear e0 e1 e2 c0 c1 c2 c3 c4 px0 px1 px2 px3 px4 py0 py1 py2 py3 py4 pz0 pz1 pz2 pz3 pz4 gS gx gy gz
  refine wp_region_bel (by kernel_rfl) (by kernel_rfl) ?_
  repeat (go_big_quiet_step (first
    | (go_at_call 51; with_reducible exact Bel.calls (fun W hW => Hy.out W (btO HW2.out hW)) _)))
  refine wpQuiet_nil ?_
  rintro _ ⟨zz, rfl⟩
  clear ze0 ze1 ze2 zc0 zc1 zc2 zc3 zc4 zpx0 zpx1 zpx2 zpx3 zpx4 zpy0 zpy1 zpy2 zpy3 zpy4 zpz0 zpz1 zpz2 zpz3 zpz4
  have HW3 := Lib.hid (btO HW2.out zz.2)
  generalize zz.1 = w3 at *
  obtain ⟨⟨e0, e1, e2, c0, c1, c2, c3, c4⟩, ⟨px0, px1, px2, px3, px4⟩, ⟨py0, py1, py2, py3, py4⟩, ⟨pz0, pz1, pz2, pz3, pz4⟩⟩ := HG.out _ HW3.out
  go_wp2_with (fail)
  all_goals go_ret2
  all_goals exact ⟨rfl, btO HB.out HW3.out⟩
set_option maxRecDepth 100000 in
set_option maxHeartbeats 6400000 in
theorem pcho_f (va : ByteArray) (ea : Int) (rr nn : ByteArray) (dd : Int) (A : Option Addr) (c : Nat) (x y z : Ex) (E : Ev) (day : Int) (w : World) (hin : Ex.In w (.mk 9 rr nn dd A c [x, y, z])) (hE : E.Inv w) (hx : ∀ W, x.In W → E.Inv W → Calls Tryz.prog 52 #[evV day E, x.val] W (fun e w' => e = .returned (.tuple #[.bool false, .int .i64 0]) ∧ Below W.heap.size W w')) (hz : ∀ W, z.In W → E.Inv W → Calls Tryz.prog 51 #[evV day E, z.val] W (fun e w' => e = .returned (.tuple #[.string va, .int .i64 ea]) ∧ Below W.heap.size W w')) :
    Calls Tryz.prog 89 #[evV day E, Ex.val (.mk 9 rr nn dd A c [x, y, z])] w (StE va ea w) := by
  obtain ⟨b, o, rfl, ix, qx, iy, qy, iz, qz⟩ := hin.ptc3
  obtain ⟨fA, fs, fc, cA, cs, cc⟩ := E
  obtain ⟨w1, hw1, hB, hS⟩ := pv_begin w day 9 rr nn dd (some ⟨b, o, none⟩) 3 c fA fs.length fc cA cs.length cc
  have HB := Lib.hid hB
  have HG := Lib.hid (fun W (hW : Below w1.heap.size w1 W) => And.intro (hS.below hW) (And.intro (qx.below (btO hB hW)) (And.intro (qy.below (btO hB hW)) (qz.below (btO hB hW)))))
  have Hx := Lib.hid (fun W (hW : Below w1.heap.size w1 W) => hx W (ix.below (btO hB hW)) (hE.below (btO hB hW)))
  have Hz := Lib.hid (fun W (hW : Below w1.heap.size w1 W) => hz W (iz.below (btO hB hW)) (hE.below (btO hB hW)))
  have HW1 := Lib.hid (Below.refl w1.heap.size w1)
  show Calls Tryz.prog 89 #[.agg #[.int .i64 day, .slice fA fs.length fc, .slice cA cs.length cc], .agg #[.int .u8 9, .string rr, .string nn, .int .i64 dd, .slice (some ⟨b, o, none⟩) 3 c]] w _
  clear hin hE hB hS hx hz ix iy iz qx qy qz
  obtain ⟨⟨e0, e1, e2, c0, c1, c2, c3, c4⟩, ⟨px0, px1, px2, px3, px4⟩, ⟨py0, py1, py2, py3, py4⟩, ⟨pz0, pz1, pz2, pz3, pz4⟩⟩ := HG.out _ HW1.out
  go_enter Tryz.func89, Tryz.ntmps89
  go_wp2_with (fail)
  obtain ⟨gS, gx, gy, gz⟩ := HG.out _ HW1.out
  obtain ⟨ze0, ze1, ze2, zc0, zc1, zc2, zc3, zc4⟩ := gS.zs
  obtain ⟨zpx0, zpx1, zpx2, zpx3, zpx4⟩ := gx.zs
  obtain ⟨zpy0, zpy1, zpy2, zpy3, zpy4⟩ := gy.zs
  obtain ⟨zpz0, zpz1, zpz2, zpz3, zpz4⟩ := gz.zs
  clear e0 e1 e2 c0 c1 c2 c3 c4 px0 px1 px2 px3 px4 py0 py1 py2 py3 py4 pz0 pz1 pz2 pz3 pz4 gS gx gy gz
  clear hw1
  refine wp_region_bel (by kernel_rfl) (by kernel_rfl) ?_
  repeat (go_big_quiet_step (first
    | (go_at_call 52; with_reducible exact Bel.calls (fun W hW => Hx.out W (btO HW1.out hW)) _)))
  refine wpQuiet_nil ?_
  rintro _ ⟨zz, rfl⟩
  clear ze0 ze1 ze2 zc0 zc1 zc2 zc3 zc4 zpx0 zpx1 zpx2 zpx3 zpx4 zpy0 zpy1 zpy2 zpy3 zpy4 zpz0 zpz1 zpz2 zpz3 zpz4
  have HW2 := Lib.hid (btO HW1.out zz.2)
  generalize zz.1 = w2 at *
  obtain ⟨⟨e0, e1, e2, c0, c1, c2, c3, c4⟩, ⟨px0, px1, px2, px3, px4⟩, ⟨py0, py1, py2, py3, py4⟩, ⟨pz0, pz1, pz2, pz3, pz4⟩⟩ := HG.out _ HW2.out
  go_wp2_with (fail)
  obtain ⟨gS, gx, gy, gz⟩ := HG.out _ HW2.out
  obtain ⟨ze0, ze1, ze2, zc0, zc1, zc2, zc3, zc4⟩ := gS.zs
  obtain ⟨zpx0, zpx1, zpx2, zpx3, zpx4⟩ := gx.zs
  obtain ⟨zpy0, zpy1, zpy2, zpy3, zpy4⟩ := gy.zs
  obtain ⟨zpz0, zpz1, zpz2, zpz3, zpz4⟩ := gz.zs
  clear e0 e1 e2 c0 c1 c2 c3 c4 px0 px1 px2 px3 px4 py0 py1 py2 py3 py4 pz0 pz1 pz2 pz3 pz4 gS gx gy gz
  refine wp_region_bel (by kernel_rfl) (by kernel_rfl) ?_
  repeat (go_big_quiet_step (first
    | (go_at_call 51; with_reducible exact Bel.calls (fun W hW => Hz.out W (btO HW2.out hW)) _)))
  refine wpQuiet_nil ?_
  rintro _ ⟨zz, rfl⟩
  clear ze0 ze1 ze2 zc0 zc1 zc2 zc3 zc4 zpx0 zpx1 zpx2 zpx3 zpx4 zpy0 zpy1 zpy2 zpy3 zpy4 zpz0 zpz1 zpz2 zpz3 zpz4
  have HW3 := Lib.hid (btO HW2.out zz.2)
  generalize zz.1 = w3 at *
  obtain ⟨⟨e0, e1, e2, c0, c1, c2, c3, c4⟩, ⟨px0, px1, px2, px3, px4⟩, ⟨py0, py1, py2, py3, py4⟩, ⟨pz0, pz1, pz2, pz3, pz4⟩⟩ := HG.out _ HW3.out
  go_wp2_with (fail)
  all_goals go_ret2
  all_goals exact ⟨rfl, btO HB.out HW3.out⟩
set_option maxRecDepth 100000 in
set_option maxHeartbeats 6400000 in
theorem pboth_e (ea : Int) (rr nn : ByteArray) (dd : Int) (A : Option Addr) (c : Nat) (x y : Ex) (E : Ev) (day : Int) (w : World) (hin : Ex.In w (.mk 13 rr nn dd A c [x, y])) (hE : E.Inv w) (hx : ∀ W, x.In W → E.Inv W → Calls Tryz.prog 52 #[evV day E, x.val] W (fun e w' => e = .returned (.tuple #[.bool false, .int .i64 ea]) ∧ Below W.heap.size W w')) (hea : (ea != 0) = true) :
    Calls Tryz.prog 92 #[evV day E, Ex.val (.mk 13 rr nn dd A c [x, y])] w (TrE false ea w) := by
  obtain ⟨b, o, rfl, ix, qx, iy, qy⟩ := hin.ptc2
  obtain ⟨fA, fs, fc, cA, cs, cc⟩ := E
  obtain ⟨w1, hw1, hB, hS⟩ := pv_begin w day 13 rr nn dd (some ⟨b, o, none⟩) 2 c fA fs.length fc cA cs.length cc
  have HB := Lib.hid hB
  have HG := Lib.hid (fun W (hW : Below w1.heap.size w1 W) => And.intro (hS.below hW) (And.intro (qx.below (btO hB hW)) (qy.below (btO hB hW))))
  have Hx := Lib.hid (fun W (hW : Below w1.heap.size w1 W) => hx W (ix.below (btO hB hW)) (hE.below (btO hB hW)))
  have HW1 := Lib.hid (Below.refl w1.heap.size w1)
  show Calls Tryz.prog 92 #[.agg #[.int .i64 day, .slice fA fs.length fc, .slice cA cs.length cc], .agg #[.int .u8 13, .string rr, .string nn, .int .i64 dd, .slice (some ⟨b, o, none⟩) 2 c]] w _
  clear hin hE hB hS hx ix iy qx qy
  obtain ⟨⟨e0, e1, e2, c0, c1, c2, c3, c4⟩, ⟨px0, px1, px2, px3, px4⟩, ⟨py0, py1, py2, py3, py4⟩⟩ := HG.out _ HW1.out
  go_enter Tryz.func92, Tryz.ntmps92
  go_wp2_with (fail)
  obtain ⟨gS, gx, gy⟩ := HG.out _ HW1.out
  obtain ⟨ze0, ze1, ze2, zc0, zc1, zc2, zc3, zc4⟩ := gS.zs
  obtain ⟨zpx0, zpx1, zpx2, zpx3, zpx4⟩ := gx.zs
  obtain ⟨zpy0, zpy1, zpy2, zpy3, zpy4⟩ := gy.zs
  clear e0 e1 e2 c0 c1 c2 c3 c4 px0 px1 px2 px3 px4 py0 py1 py2 py3 py4 gS gx gy
  clear hw1
  refine wp_region_bel (by kernel_rfl) (by kernel_rfl) ?_
  repeat (go_big_quiet_step (first
    | (go_at_call 52; with_reducible exact Bel.calls (fun W hW => Hx.out W (btO HW1.out hW)) _)))
  refine wpQuiet_nil ?_
  rintro _ ⟨zz, rfl⟩
  clear ze0 ze1 ze2 zc0 zc1 zc2 zc3 zc4 zpx0 zpx1 zpx2 zpx3 zpx4 zpy0 zpy1 zpy2 zpy3 zpy4
  have HW2 := Lib.hid (btO HW1.out zz.2)
  generalize zz.1 = w2 at *
  obtain ⟨⟨e0, e1, e2, c0, c1, c2, c3, c4⟩, ⟨px0, px1, px2, px3, px4⟩, ⟨py0, py1, py2, py3, py4⟩⟩ := HG.out _ HW2.out
  go_wp2_with (fail)
  all_goals go_ret2
  all_goals exact ⟨rfl, btO HB.out HW2.out⟩
set_option maxRecDepth 100000 in
set_option maxHeartbeats 6400000 in
theorem pboth_s (rr nn : ByteArray) (dd : Int) (A : Option Addr) (c : Nat) (x y : Ex) (E : Ev) (day : Int) (w : World) (hin : Ex.In w (.mk 13 rr nn dd A c [x, y])) (hE : E.Inv w) (hx : ∀ W, x.In W → E.Inv W → Calls Tryz.prog 52 #[evV day E, x.val] W (fun e w' => e = .returned (.tuple #[.bool false, .int .i64 0]) ∧ Below W.heap.size W w')) :
    Calls Tryz.prog 92 #[evV day E, Ex.val (.mk 13 rr nn dd A c [x, y])] w (TrE false 0 w) := by
  obtain ⟨b, o, rfl, ix, qx, iy, qy⟩ := hin.ptc2
  obtain ⟨fA, fs, fc, cA, cs, cc⟩ := E
  obtain ⟨w1, hw1, hB, hS⟩ := pv_begin w day 13 rr nn dd (some ⟨b, o, none⟩) 2 c fA fs.length fc cA cs.length cc
  have HB := Lib.hid hB
  have HG := Lib.hid (fun W (hW : Below w1.heap.size w1 W) => And.intro (hS.below hW) (And.intro (qx.below (btO hB hW)) (qy.below (btO hB hW))))
  have Hx := Lib.hid (fun W (hW : Below w1.heap.size w1 W) => hx W (ix.below (btO hB hW)) (hE.below (btO hB hW)))
  have HW1 := Lib.hid (Below.refl w1.heap.size w1)
  show Calls Tryz.prog 92 #[.agg #[.int .i64 day, .slice fA fs.length fc, .slice cA cs.length cc], .agg #[.int .u8 13, .string rr, .string nn, .int .i64 dd, .slice (some ⟨b, o, none⟩) 2 c]] w _
  clear hin hE hB hS hx ix iy qx qy
  obtain ⟨⟨e0, e1, e2, c0, c1, c2, c3, c4⟩, ⟨px0, px1, px2, px3, px4⟩, ⟨py0, py1, py2, py3, py4⟩⟩ := HG.out _ HW1.out
  go_enter Tryz.func92, Tryz.ntmps92
  go_wp2_with (fail)
  obtain ⟨gS, gx, gy⟩ := HG.out _ HW1.out
  obtain ⟨ze0, ze1, ze2, zc0, zc1, zc2, zc3, zc4⟩ := gS.zs
  obtain ⟨zpx0, zpx1, zpx2, zpx3, zpx4⟩ := gx.zs
  obtain ⟨zpy0, zpy1, zpy2, zpy3, zpy4⟩ := gy.zs
  clear e0 e1 e2 c0 c1 c2 c3 c4 px0 px1 px2 px3 px4 py0 py1 py2 py3 py4 gS gx gy
  clear hw1
  refine wp_region_bel (by kernel_rfl) (by kernel_rfl) ?_
  repeat (go_big_quiet_step (first
    | (go_at_call 52; with_reducible exact Bel.calls (fun W hW => Hx.out W (btO HW1.out hW)) _)))
  refine wpQuiet_nil ?_
  rintro _ ⟨zz, rfl⟩
  clear ze0 ze1 ze2 zc0 zc1 zc2 zc3 zc4 zpx0 zpx1 zpx2 zpx3 zpx4 zpy0 zpy1 zpy2 zpy3 zpy4
  have HW2 := Lib.hid (btO HW1.out zz.2)
  generalize zz.1 = w2 at *
  obtain ⟨⟨e0, e1, e2, c0, c1, c2, c3, c4⟩, ⟨px0, px1, px2, px3, px4⟩, ⟨py0, py1, py2, py3, py4⟩⟩ := HG.out _ HW2.out
  go_wp2_with (fail)
  all_goals go_ret2
  all_goals exact ⟨rfl, btO HB.out HW2.out⟩
set_option maxRecDepth 100000 in
set_option maxHeartbeats 6400000 in
theorem pboth_l (bb : Bool) (ea : Int) (rr nn : ByteArray) (dd : Int) (A : Option Addr) (c : Nat) (x y : Ex) (E : Ev) (day : Int) (w : World) (hin : Ex.In w (.mk 13 rr nn dd A c [x, y])) (hE : E.Inv w) (hx : ∀ W, x.In W → E.Inv W → Calls Tryz.prog 52 #[evV day E, x.val] W (fun e w' => e = .returned (.tuple #[.bool true, .int .i64 0]) ∧ Below W.heap.size W w')) (hy : ∀ W, y.In W → E.Inv W → Calls Tryz.prog 52 #[evV day E, y.val] W (fun e w' => e = .returned (.tuple #[.bool bb, .int .i64 ea]) ∧ Below W.heap.size W w')) :
    Calls Tryz.prog 92 #[evV day E, Ex.val (.mk 13 rr nn dd A c [x, y])] w (TrE bb ea w) := by
  obtain ⟨b, o, rfl, ix, qx, iy, qy⟩ := hin.ptc2
  obtain ⟨fA, fs, fc, cA, cs, cc⟩ := E
  obtain ⟨w1, hw1, hB, hS⟩ := pv_begin w day 13 rr nn dd (some ⟨b, o, none⟩) 2 c fA fs.length fc cA cs.length cc
  have HB := Lib.hid hB
  have HG := Lib.hid (fun W (hW : Below w1.heap.size w1 W) => And.intro (hS.below hW) (And.intro (qx.below (btO hB hW)) (qy.below (btO hB hW))))
  have Hx := Lib.hid (fun W (hW : Below w1.heap.size w1 W) => hx W (ix.below (btO hB hW)) (hE.below (btO hB hW)))
  have Hy := Lib.hid (fun W (hW : Below w1.heap.size w1 W) => hy W (iy.below (btO hB hW)) (hE.below (btO hB hW)))
  have HW1 := Lib.hid (Below.refl w1.heap.size w1)
  show Calls Tryz.prog 92 #[.agg #[.int .i64 day, .slice fA fs.length fc, .slice cA cs.length cc], .agg #[.int .u8 13, .string rr, .string nn, .int .i64 dd, .slice (some ⟨b, o, none⟩) 2 c]] w _
  clear hin hE hB hS hx hy ix iy qx qy
  obtain ⟨⟨e0, e1, e2, c0, c1, c2, c3, c4⟩, ⟨px0, px1, px2, px3, px4⟩, ⟨py0, py1, py2, py3, py4⟩⟩ := HG.out _ HW1.out
  go_enter Tryz.func92, Tryz.ntmps92
  go_wp2_with (fail)
  obtain ⟨gS, gx, gy⟩ := HG.out _ HW1.out
  obtain ⟨ze0, ze1, ze2, zc0, zc1, zc2, zc3, zc4⟩ := gS.zs
  obtain ⟨zpx0, zpx1, zpx2, zpx3, zpx4⟩ := gx.zs
  obtain ⟨zpy0, zpy1, zpy2, zpy3, zpy4⟩ := gy.zs
  clear e0 e1 e2 c0 c1 c2 c3 c4 px0 px1 px2 px3 px4 py0 py1 py2 py3 py4 gS gx gy
  clear hw1
  refine wp_region_bel (by kernel_rfl) (by kernel_rfl) ?_
  repeat (go_big_quiet_step (first
    | (go_at_call 52; with_reducible exact Bel.calls (fun W hW => Hx.out W (btO HW1.out hW)) _)))
  refine wpQuiet_nil ?_
  rintro _ ⟨zz, rfl⟩
  clear ze0 ze1 ze2 zc0 zc1 zc2 zc3 zc4 zpx0 zpx1 zpx2 zpx3 zpx4 zpy0 zpy1 zpy2 zpy3 zpy4
  have HW2 := Lib.hid (btO HW1.out zz.2)
  generalize zz.1 = w2 at *
  obtain ⟨⟨e0, e1, e2, c0, c1, c2, c3, c4⟩, ⟨px0, px1, px2, px3, px4⟩, ⟨py0, py1, py2, py3, py4⟩⟩ := HG.out _ HW2.out
  go_wp2_with (fail)
  obtain ⟨gS, gx, gy⟩ := HG.out _ HW2.out
  obtain ⟨ze0, ze1, ze2, zc0, zc1, zc2, zc3, zc4⟩ := gS.zs
  obtain ⟨zpx0, zpx1, zpx2, zpx3, zpx4⟩ := gx.zs
  obtain ⟨zpy0, zpy1, zpy2, zpy3, zpy4⟩ := gy.zs
  clear e0 e1 e2 c0 c1 c2 c3 c4 px0 px1 px2 px3 px4 py0 py1 py2 py3 py4 gS gx gy
  refine wp_region_bel (by kernel_rfl) (by kernel_rfl) ?_
  repeat (go_big_quiet_step (first
    | (go_at_call 52; with_reducible exact Bel.calls (fun W hW => Hy.out W (btO HW2.out hW)) _)))
  refine wpQuiet_nil ?_
  rintro _ ⟨zz, rfl⟩
  clear ze0 ze1 ze2 zc0 zc1 zc2 zc3 zc4 zpx0 zpx1 zpx2 zpx3 zpx4 zpy0 zpy1 zpy2 zpy3 zpy4
  have HW3 := Lib.hid (btO HW2.out zz.2)
  generalize zz.1 = w3 at *
  obtain ⟨⟨e0, e1, e2, c0, c1, c2, c3, c4⟩, ⟨px0, px1, px2, px3, px4⟩, ⟨py0, py1, py2, py3, py4⟩⟩ := HG.out _ HW3.out
  go_wp2_with (fail)
  all_goals go_ret2
  all_goals exact ⟨rfl, btO HB.out HW3.out⟩
set_option maxRecDepth 100000 in
set_option maxHeartbeats 6400000 in
theorem peith_e (ea : Int) (rr nn : ByteArray) (dd : Int) (A : Option Addr) (c : Nat) (x y : Ex) (E : Ev) (day : Int) (w : World) (hin : Ex.In w (.mk 14 rr nn dd A c [x, y])) (hE : E.Inv w) (hx : ∀ W, x.In W → E.Inv W → Calls Tryz.prog 52 #[evV day E, x.val] W (fun e w' => e = .returned (.tuple #[.bool false, .int .i64 ea]) ∧ Below W.heap.size W w')) (hea : (ea != 0) = true) :
    Calls Tryz.prog 93 #[evV day E, Ex.val (.mk 14 rr nn dd A c [x, y])] w (TrE false ea w) := by
  obtain ⟨b, o, rfl, ix, qx, iy, qy⟩ := hin.ptc2
  obtain ⟨fA, fs, fc, cA, cs, cc⟩ := E
  obtain ⟨w1, hw1, hB, hS⟩ := pv_begin w day 14 rr nn dd (some ⟨b, o, none⟩) 2 c fA fs.length fc cA cs.length cc
  have HB := Lib.hid hB
  have HG := Lib.hid (fun W (hW : Below w1.heap.size w1 W) => And.intro (hS.below hW) (And.intro (qx.below (btO hB hW)) (qy.below (btO hB hW))))
  have Hx := Lib.hid (fun W (hW : Below w1.heap.size w1 W) => hx W (ix.below (btO hB hW)) (hE.below (btO hB hW)))
  have HW1 := Lib.hid (Below.refl w1.heap.size w1)
  show Calls Tryz.prog 93 #[.agg #[.int .i64 day, .slice fA fs.length fc, .slice cA cs.length cc], .agg #[.int .u8 14, .string rr, .string nn, .int .i64 dd, .slice (some ⟨b, o, none⟩) 2 c]] w _
  clear hin hE hB hS hx ix iy qx qy
  obtain ⟨⟨e0, e1, e2, c0, c1, c2, c3, c4⟩, ⟨px0, px1, px2, px3, px4⟩, ⟨py0, py1, py2, py3, py4⟩⟩ := HG.out _ HW1.out
  go_enter Tryz.func93, Tryz.ntmps93
  go_wp2_with (fail)
  obtain ⟨gS, gx, gy⟩ := HG.out _ HW1.out
  obtain ⟨ze0, ze1, ze2, zc0, zc1, zc2, zc3, zc4⟩ := gS.zs
  obtain ⟨zpx0, zpx1, zpx2, zpx3, zpx4⟩ := gx.zs
  obtain ⟨zpy0, zpy1, zpy2, zpy3, zpy4⟩ := gy.zs
  clear e0 e1 e2 c0 c1 c2 c3 c4 px0 px1 px2 px3 px4 py0 py1 py2 py3 py4 gS gx gy
  clear hw1
  refine wp_region_bel (by kernel_rfl) (by kernel_rfl) ?_
  repeat (go_big_quiet_step (first
    | (go_at_call 52; with_reducible exact Bel.calls (fun W hW => Hx.out W (btO HW1.out hW)) _)))
  refine wpQuiet_nil ?_
  rintro _ ⟨zz, rfl⟩
  clear ze0 ze1 ze2 zc0 zc1 zc2 zc3 zc4 zpx0 zpx1 zpx2 zpx3 zpx4 zpy0 zpy1 zpy2 zpy3 zpy4
  have HW2 := Lib.hid (btO HW1.out zz.2)
  generalize zz.1 = w2 at *
  obtain ⟨⟨e0, e1, e2, c0, c1, c2, c3, c4⟩, ⟨px0, px1, px2, px3, px4⟩, ⟨py0, py1, py2, py3, py4⟩⟩ := HG.out _ HW2.out
  go_wp2_with (fail)
  all_goals go_ret2
  all_goals exact ⟨rfl, btO HB.out HW2.out⟩
set_option maxRecDepth 100000 in
set_option maxHeartbeats 6400000 in
theorem peith_s (rr nn : ByteArray) (dd : Int) (A : Option Addr) (c : Nat) (x y : Ex) (E : Ev) (day : Int) (w : World) (hin : Ex.In w (.mk 14 rr nn dd A c [x, y])) (hE : E.Inv w) (hx : ∀ W, x.In W → E.Inv W → Calls Tryz.prog 52 #[evV day E, x.val] W (fun e w' => e = .returned (.tuple #[.bool true, .int .i64 0]) ∧ Below W.heap.size W w')) :
    Calls Tryz.prog 93 #[evV day E, Ex.val (.mk 14 rr nn dd A c [x, y])] w (TrE true 0 w) := by
  obtain ⟨b, o, rfl, ix, qx, iy, qy⟩ := hin.ptc2
  obtain ⟨fA, fs, fc, cA, cs, cc⟩ := E
  obtain ⟨w1, hw1, hB, hS⟩ := pv_begin w day 14 rr nn dd (some ⟨b, o, none⟩) 2 c fA fs.length fc cA cs.length cc
  have HB := Lib.hid hB
  have HG := Lib.hid (fun W (hW : Below w1.heap.size w1 W) => And.intro (hS.below hW) (And.intro (qx.below (btO hB hW)) (qy.below (btO hB hW))))
  have Hx := Lib.hid (fun W (hW : Below w1.heap.size w1 W) => hx W (ix.below (btO hB hW)) (hE.below (btO hB hW)))
  have HW1 := Lib.hid (Below.refl w1.heap.size w1)
  show Calls Tryz.prog 93 #[.agg #[.int .i64 day, .slice fA fs.length fc, .slice cA cs.length cc], .agg #[.int .u8 14, .string rr, .string nn, .int .i64 dd, .slice (some ⟨b, o, none⟩) 2 c]] w _
  clear hin hE hB hS hx ix iy qx qy
  obtain ⟨⟨e0, e1, e2, c0, c1, c2, c3, c4⟩, ⟨px0, px1, px2, px3, px4⟩, ⟨py0, py1, py2, py3, py4⟩⟩ := HG.out _ HW1.out
  go_enter Tryz.func93, Tryz.ntmps93
  go_wp2_with (fail)
  obtain ⟨gS, gx, gy⟩ := HG.out _ HW1.out
  obtain ⟨ze0, ze1, ze2, zc0, zc1, zc2, zc3, zc4⟩ := gS.zs
  obtain ⟨zpx0, zpx1, zpx2, zpx3, zpx4⟩ := gx.zs
  obtain ⟨zpy0, zpy1, zpy2, zpy3, zpy4⟩ := gy.zs
  clear e0 e1 e2 c0 c1 c2 c3 c4 px0 px1 px2 px3 px4 py0 py1 py2 py3 py4 gS gx gy
  clear hw1
  refine wp_region_bel (by kernel_rfl) (by kernel_rfl) ?_
  repeat (go_big_quiet_step (first
    | (go_at_call 52; with_reducible exact Bel.calls (fun W hW => Hx.out W (btO HW1.out hW)) _)))
  refine wpQuiet_nil ?_
  rintro _ ⟨zz, rfl⟩
  clear ze0 ze1 ze2 zc0 zc1 zc2 zc3 zc4 zpx0 zpx1 zpx2 zpx3 zpx4 zpy0 zpy1 zpy2 zpy3 zpy4
  have HW2 := Lib.hid (btO HW1.out zz.2)
  generalize zz.1 = w2 at *
  obtain ⟨⟨e0, e1, e2, c0, c1, c2, c3, c4⟩, ⟨px0, px1, px2, px3, px4⟩, ⟨py0, py1, py2, py3, py4⟩⟩ := HG.out _ HW2.out
  go_wp2_with (fail)
  all_goals go_ret2
  all_goals exact ⟨rfl, btO HB.out HW2.out⟩
set_option maxRecDepth 100000 in
set_option maxHeartbeats 6400000 in
theorem peith_l (bb : Bool) (ea : Int) (rr nn : ByteArray) (dd : Int) (A : Option Addr) (c : Nat) (x y : Ex) (E : Ev) (day : Int) (w : World) (hin : Ex.In w (.mk 14 rr nn dd A c [x, y])) (hE : E.Inv w) (hx : ∀ W, x.In W → E.Inv W → Calls Tryz.prog 52 #[evV day E, x.val] W (fun e w' => e = .returned (.tuple #[.bool false, .int .i64 0]) ∧ Below W.heap.size W w')) (hy : ∀ W, y.In W → E.Inv W → Calls Tryz.prog 52 #[evV day E, y.val] W (fun e w' => e = .returned (.tuple #[.bool bb, .int .i64 ea]) ∧ Below W.heap.size W w')) :
    Calls Tryz.prog 93 #[evV day E, Ex.val (.mk 14 rr nn dd A c [x, y])] w (TrE bb ea w) := by
  obtain ⟨b, o, rfl, ix, qx, iy, qy⟩ := hin.ptc2
  obtain ⟨fA, fs, fc, cA, cs, cc⟩ := E
  obtain ⟨w1, hw1, hB, hS⟩ := pv_begin w day 14 rr nn dd (some ⟨b, o, none⟩) 2 c fA fs.length fc cA cs.length cc
  have HB := Lib.hid hB
  have HG := Lib.hid (fun W (hW : Below w1.heap.size w1 W) => And.intro (hS.below hW) (And.intro (qx.below (btO hB hW)) (qy.below (btO hB hW))))
  have Hx := Lib.hid (fun W (hW : Below w1.heap.size w1 W) => hx W (ix.below (btO hB hW)) (hE.below (btO hB hW)))
  have Hy := Lib.hid (fun W (hW : Below w1.heap.size w1 W) => hy W (iy.below (btO hB hW)) (hE.below (btO hB hW)))
  have HW1 := Lib.hid (Below.refl w1.heap.size w1)
  show Calls Tryz.prog 93 #[.agg #[.int .i64 day, .slice fA fs.length fc, .slice cA cs.length cc], .agg #[.int .u8 14, .string rr, .string nn, .int .i64 dd, .slice (some ⟨b, o, none⟩) 2 c]] w _
  clear hin hE hB hS hx hy ix iy qx qy
  obtain ⟨⟨e0, e1, e2, c0, c1, c2, c3, c4⟩, ⟨px0, px1, px2, px3, px4⟩, ⟨py0, py1, py2, py3, py4⟩⟩ := HG.out _ HW1.out
  go_enter Tryz.func93, Tryz.ntmps93
  go_wp2_with (fail)
  obtain ⟨gS, gx, gy⟩ := HG.out _ HW1.out
  obtain ⟨ze0, ze1, ze2, zc0, zc1, zc2, zc3, zc4⟩ := gS.zs
  obtain ⟨zpx0, zpx1, zpx2, zpx3, zpx4⟩ := gx.zs
  obtain ⟨zpy0, zpy1, zpy2, zpy3, zpy4⟩ := gy.zs
  clear e0 e1 e2 c0 c1 c2 c3 c4 px0 px1 px2 px3 px4 py0 py1 py2 py3 py4 gS gx gy
  clear hw1
  refine wp_region_bel (by kernel_rfl) (by kernel_rfl) ?_
  repeat (go_big_quiet_step (first
    | (go_at_call 52; with_reducible exact Bel.calls (fun W hW => Hx.out W (btO HW1.out hW)) _)))
  refine wpQuiet_nil ?_
  rintro _ ⟨zz, rfl⟩
  clear ze0 ze1 ze2 zc0 zc1 zc2 zc3 zc4 zpx0 zpx1 zpx2 zpx3 zpx4 zpy0 zpy1 zpy2 zpy3 zpy4
  have HW2 := Lib.hid (btO HW1.out zz.2)
  generalize zz.1 = w2 at *
  obtain ⟨⟨e0, e1, e2, c0, c1, c2, c3, c4⟩, ⟨px0, px1, px2, px3, px4⟩, ⟨py0, py1, py2, py3, py4⟩⟩ := HG.out _ HW2.out
  go_wp2_with (fail)
  obtain ⟨gS, gx, gy⟩ := HG.out _ HW2.out
  obtain ⟨ze0, ze1, ze2, zc0, zc1, zc2, zc3, zc4⟩ := gS.zs
  obtain ⟨zpx0, zpx1, zpx2, zpx3, zpx4⟩ := gx.zs
  obtain ⟨zpy0, zpy1, zpy2, zpy3, zpy4⟩ := gy.zs
  clear e0 e1 e2 c0 c1 c2 c3 c4 px0 px1 px2 px3 px4 py0 py1 py2 py3 py4 gS gx gy
  refine wp_region_bel (by kernel_rfl) (by kernel_rfl) ?_
  repeat (go_big_quiet_step (first
    | (go_at_call 52; with_reducible exact Bel.calls (fun W hW => Hy.out W (btO HW2.out hW)) _)))
  refine wpQuiet_nil ?_
  rintro _ ⟨zz, rfl⟩
  clear ze0 ze1 ze2 zc0 zc1 zc2 zc3 zc4 zpx0 zpx1 zpx2 zpx3 zpx4 zpy0 zpy1 zpy2 zpy3 zpy4
  have HW3 := Lib.hid (btO HW2.out zz.2)
  generalize zz.1 = w3 at *
  obtain ⟨⟨e0, e1, e2, c0, c1, c2, c3, c4⟩, ⟨px0, px1, px2, px3, px4⟩, ⟨py0, py1, py2, py3, py4⟩⟩ := HG.out _ HW3.out
  go_wp2_with (fail)
  all_goals go_ret2
  all_goals exact ⟨rfl, btO HB.out HW3.out⟩
set_option maxRecDepth 100000 in
set_option maxHeartbeats 6400000 in
theorem pnot_e (ba : Bool) (ea : Int) (rr nn : ByteArray) (dd : Int) (A : Option Addr) (c : Nat) (x : Ex) (E : Ev) (day : Int) (w : World) (hin : Ex.In w (.mk 15 rr nn dd A c [x])) (hE : E.Inv w) (hx : ∀ W, x.In W → E.Inv W → Calls Tryz.prog 52 #[evV day E, x.val] W (fun e w' => e = .returned (.tuple #[.bool ba, .int .i64 ea]) ∧ Below W.heap.size W w')) (hea : (ea == 0) = false) :
    Calls Tryz.prog 94 #[evV day E, Ex.val (.mk 15 rr nn dd A c [x])] w (TrE false ea w) := by
  obtain ⟨b, o, rfl, ix, qx⟩ := hin.ptc1
  obtain ⟨fA, fs, fc, cA, cs, cc⟩ := E
  obtain ⟨w1, hw1, hB, hS⟩ := pv_begin w day 15 rr nn dd (some ⟨b, o, none⟩) 1 c fA fs.length fc cA cs.length cc
  have HB := Lib.hid hB
  have HG := Lib.hid (fun W (hW : Below w1.heap.size w1 W) => And.intro (hS.below hW) (qx.below (btO hB hW)))
  have Hx := Lib.hid (fun W (hW : Below w1.heap.size w1 W) => hx W (ix.below (btO hB hW)) (hE.below (btO hB hW)))
  have HW1 := Lib.hid (Below.refl w1.heap.size w1)
  show Calls Tryz.prog 94 #[.agg #[.int .i64 day, .slice fA fs.length fc, .slice cA cs.length cc], .agg #[.int .u8 15, .string rr, .string nn, .int .i64 dd, .slice (some ⟨b, o, none⟩) 1 c]] w _
  clear hin hE hB hS hx ix qx
  obtain ⟨⟨e0, e1, e2, c0, c1, c2, c3, c4⟩, ⟨px0, px1, px2, px3, px4⟩⟩ := HG.out _ HW1.out
  go_enter Tryz.func94, Tryz.ntmps94
  go_wp2_with (fail)
  obtain ⟨gS, gx⟩ := HG.out _ HW1.out
  obtain ⟨ze0, ze1, ze2, zc0, zc1, zc2, zc3, zc4⟩ := gS.zs
  obtain ⟨zpx0, zpx1, zpx2, zpx3, zpx4⟩ := gx.zs
  clear e0 e1 e2 c0 c1 c2 c3 c4 px0 px1 px2 px3 px4 gS gx
  clear hw1
  refine wp_region_bel (by kernel_rfl) (by kernel_rfl) ?_
  repeat (go_big_quiet_step (first
    | (go_at_call 52; with_reducible exact Bel.calls (fun W hW => Hx.out W (btO HW1.out hW)) _)))
  refine wpQuiet_nil ?_
  rintro _ ⟨zz, rfl⟩
  clear ze0 ze1 ze2 zc0 zc1 zc2 zc3 zc4 zpx0 zpx1 zpx2 zpx3 zpx4
  have HW2 := Lib.hid (btO HW1.out zz.2)
  generalize zz.1 = w2 at *
  obtain ⟨⟨e0, e1, e2, c0, c1, c2, c3, c4⟩, ⟨px0, px1, px2, px3, px4⟩⟩ := HG.out _ HW2.out
  go_wp2_with (fail)
  all_goals go_ret2
  all_goals exact ⟨rfl, btO HB.out HW2.out⟩
set_option maxRecDepth 100000 in
set_option maxHeartbeats 6400000 in
theorem pnot_o (ba : Bool) (rr nn : ByteArray) (dd : Int) (A : Option Addr) (c : Nat) (x : Ex) (E : Ev) (day : Int) (w : World) (hin : Ex.In w (.mk 15 rr nn dd A c [x])) (hE : E.Inv w) (hx : ∀ W, x.In W → E.Inv W → Calls Tryz.prog 52 #[evV day E, x.val] W (fun e w' => e = .returned (.tuple #[.bool ba, .int .i64 0]) ∧ Below W.heap.size W w')) :
    Calls Tryz.prog 94 #[evV day E, Ex.val (.mk 15 rr nn dd A c [x])] w (TrE (!ba) 0 w) := by
  obtain ⟨b, o, rfl, ix, qx⟩ := hin.ptc1
  obtain ⟨fA, fs, fc, cA, cs, cc⟩ := E
  obtain ⟨w1, hw1, hB, hS⟩ := pv_begin w day 15 rr nn dd (some ⟨b, o, none⟩) 1 c fA fs.length fc cA cs.length cc
  have HB := Lib.hid hB
  have HG := Lib.hid (fun W (hW : Below w1.heap.size w1 W) => And.intro (hS.below hW) (qx.below (btO hB hW)))
  have Hx := Lib.hid (fun W (hW : Below w1.heap.size w1 W) => hx W (ix.below (btO hB hW)) (hE.below (btO hB hW)))
  have HW1 := Lib.hid (Below.refl w1.heap.size w1)
  show Calls Tryz.prog 94 #[.agg #[.int .i64 day, .slice fA fs.length fc, .slice cA cs.length cc], .agg #[.int .u8 15, .string rr, .string nn, .int .i64 dd, .slice (some ⟨b, o, none⟩) 1 c]] w _
  clear hin hE hB hS hx ix qx
  obtain ⟨⟨e0, e1, e2, c0, c1, c2, c3, c4⟩, ⟨px0, px1, px2, px3, px4⟩⟩ := HG.out _ HW1.out
  go_enter Tryz.func94, Tryz.ntmps94
  go_wp2_with (fail)
  obtain ⟨gS, gx⟩ := HG.out _ HW1.out
  obtain ⟨ze0, ze1, ze2, zc0, zc1, zc2, zc3, zc4⟩ := gS.zs
  obtain ⟨zpx0, zpx1, zpx2, zpx3, zpx4⟩ := gx.zs
  clear e0 e1 e2 c0 c1 c2 c3 c4 px0 px1 px2 px3 px4 gS gx
  clear hw1
  refine wp_region_bel (by kernel_rfl) (by kernel_rfl) ?_
  repeat (go_big_quiet_step (first
    | (go_at_call 52; with_reducible exact Bel.calls (fun W hW => Hx.out W (btO HW1.out hW)) _)))
  refine wpQuiet_nil ?_
  rintro _ ⟨zz, rfl⟩
  clear ze0 ze1 ze2 zc0 zc1 zc2 zc3 zc4 zpx0 zpx1 zpx2 zpx3 zpx4
  have HW2 := Lib.hid (btO HW1.out zz.2)
  generalize zz.1 = w2 at *
  obtain ⟨⟨e0, e1, e2, c0, c1, c2, c3, c4⟩, ⟨px0, px1, px2, px3, px4⟩⟩ := HG.out _ HW2.out
  go_wp2_with (fail)
  all_goals go_ret2
  all_goals exact ⟨rfl, btO HB.out HW2.out⟩
end Go.Proofs.YtnomccgdajcfiaaGreatDoor
/- Layer 8: the program's evaluation: number, truth: the plain ways. -/
namespace Go.Proofs.YtnomccgdajcfiaaGreatDoor
open Go Go.RowKit Go.Maps Go.BigFrame
set_option maxRecDepth 100000 in
set_option maxHeartbeats 6400000 in
theorem pnum_1 (rr nn : ByteArray) (dd : Int) (A : Option Addr) (c : Nat) (s : List Ex) (E : Ev) (day : Int) (w : World) (hE : E.Inv w) :
    Calls Tryz.prog 51 #[evV day E, Ex.val (.mk 1 rr nn dd A c s)] w (StE rr 0 w) := by
  obtain ⟨fA, fs, fc, cA, cs, cc⟩ := E
  obtain ⟨w1, hw1, hB, hS⟩ := pv_begin w day 1 rr nn dd A s.length c fA fs.length fc cA cs.length cc
  have HB := Lib.hid hB
  have HG := Lib.hid (fun W (hW : Below w1.heap.size w1 W) => hS.below hW)
  have HW1 := Lib.hid (Below.refl w1.heap.size w1)
  show Calls Tryz.prog 51 #[.agg #[.int .i64 day, .slice fA fs.length fc, .slice cA cs.length cc], .agg #[.int .u8 1, .string rr, .string nn, .int .i64 dd, .slice A s.length c]] w _
  clear hE hB hS
  obtain ⟨e0, e1, e2, c0, c1, c2, c3, c4⟩ := HG.out _ HW1.out
  go_enter Tryz.func51, Tryz.ntmps51
  go_wp2_with (fail)
  all_goals go_ret2
  all_goals exact ⟨rfl, btO HB.out HW1.out⟩
set_option maxRecDepth 100000 in
set_option maxHeartbeats 6400000 in
theorem pnum_2 (rr nn : ByteArray) (dd : Int) (A : Option Addr) (c : Nat) (s : List Ex) (E : Ev) (day : Int) (w : World) (hE : E.Inv w) :
    Calls Tryz.prog 51 #[evV day E, Ex.val (.mk 2 rr nn dd A c s)] w (StE (lkN E.fs nn dd).1 (lkN E.fs nn dd).2 w) := by
  obtain ⟨fA, fs, fc, cA, cs, cc⟩ := E
  obtain ⟨w1, hw1, hB, hS⟩ := pv_begin w day 2 rr nn dd A s.length c fA fs.length fc cA cs.length cc
  have HB := Lib.hid hB
  have HG := Lib.hid (fun W (hW : Below w1.heap.size w1 W) => hS.below hW)
  have HF : Hid (Calls Tryz.prog 88 #[.agg #[.int .i64 day, .slice fA fs.length fc, .slice cA cs.length cc], .string nn, .int .i64 dd] w1 (StE (lkN fs nn dd).1 (lkN fs nn dd).2 w1)) := pfixing_any ⟨fA, fs, fc, cA, cs, cc⟩ day nn dd w1 (hE.below hB).i
  generalize lkN fs nn dd = lk at *
  have HW1 := Lib.hid (Below.refl w1.heap.size w1)
  show Calls Tryz.prog 51 #[.agg #[.int .i64 day, .slice fA fs.length fc, .slice cA cs.length cc], .agg #[.int .u8 2, .string rr, .string nn, .int .i64 dd, .slice A s.length c]] w _
  clear hE hB hS
  obtain ⟨e0, e1, e2, c0, c1, c2, c3, c4⟩ := HG.out _ HW1.out
  go_enter Tryz.func51, Tryz.ntmps51
  go_wp2_with ((go_at_call 88; ((with_reducible refine HF.out.mono ?_); rintro x w2 ⟨rfl, hb⟩; have HWF := Lib.hid hb; clear hb)))
  all_goals go_ret2
  all_goals exact ⟨rfl, btO HB.out HWF.out⟩
set_option maxRecDepth 100000 in
set_option maxHeartbeats 6400000 in
theorem pnum_3 (rr nn : ByteArray) (dd : Int) (A : Option Addr) (c : Nat) (s : List Ex) (E : Ev) (day : Int) (w : World) (hE : E.Inv w) :
    Calls Tryz.prog 51 #[evV day E, Ex.val (.mk 3 rr nn dd A c s)] w (StE (lkN E.fs nn day).1 (lkN E.fs nn day).2 w) := by
  obtain ⟨fA, fs, fc, cA, cs, cc⟩ := E
  obtain ⟨w1, hw1, hB, hS⟩ := pv_begin w day 3 rr nn dd A s.length c fA fs.length fc cA cs.length cc
  have HB := Lib.hid hB
  have HG := Lib.hid (fun W (hW : Below w1.heap.size w1 W) => hS.below hW)
  have HF : Hid (Calls Tryz.prog 88 #[.agg #[.int .i64 day, .slice fA fs.length fc, .slice cA cs.length cc], .string nn, .int .i64 day] w1 (StE (lkN fs nn day).1 (lkN fs nn day).2 w1)) := pfixing_any ⟨fA, fs, fc, cA, cs, cc⟩ day nn day w1 (hE.below hB).i
  generalize lkN fs nn day = lk at *
  have HW1 := Lib.hid (Below.refl w1.heap.size w1)
  show Calls Tryz.prog 51 #[.agg #[.int .i64 day, .slice fA fs.length fc, .slice cA cs.length cc], .agg #[.int .u8 3, .string rr, .string nn, .int .i64 dd, .slice A s.length c]] w _
  clear hE hB hS
  obtain ⟨e0, e1, e2, c0, c1, c2, c3, c4⟩ := HG.out _ HW1.out
  go_enter Tryz.func51, Tryz.ntmps51
  go_wp2_with ((go_at_call 88; ((with_reducible refine HF.out.mono ?_); rintro x w2 ⟨rfl, hb⟩; have HWF := Lib.hid hb; clear hb)))
  all_goals go_ret2
  all_goals exact ⟨rfl, btO HB.out HWF.out⟩
set_option maxRecDepth 100000 in
set_option maxHeartbeats 6400000 in
theorem pnum_9 (v : ByteArray) (e : Int) (rr nn : ByteArray) (dd : Int) (A : Option Addr) (c : Nat) (s : List Ex) (E : Ev) (day : Int) (w : World) (hin : Ex.In w (.mk 9 rr nn dd A c s)) (hE : E.Inv w) (hq : ∀ W, Ex.In W (.mk 9 rr nn dd A c s) → E.Inv W → Calls Tryz.prog 89 #[evV day E, Ex.val (.mk 9 rr nn dd A c s)] W (StE v e W)) :
    Calls Tryz.prog 51 #[evV day E, Ex.val (.mk 9 rr nn dd A c s)] w (StE v e w) := by
  obtain ⟨fA, fs, fc, cA, cs, cc⟩ := E
  obtain ⟨w1, hw1, hB, hS⟩ := pv_begin w day 9 rr nn dd A s.length c fA fs.length fc cA cs.length cc
  have HB := Lib.hid hB
  have HG := Lib.hid (fun W (hW : Below w1.heap.size w1 W) => hS.below hW)
  have HF : Hid (Calls Tryz.prog 89 #[.agg #[.int .i64 day, .slice fA fs.length fc, .slice cA cs.length cc], .agg #[.int .u8 9, .string rr, .string nn, .int .i64 dd, .slice A s.length c]] w1 (StE v e w1)) := hq w1 (hin.below hB) (hE.below hB)
  clear hq
  have HW1 := Lib.hid (Below.refl w1.heap.size w1)
  show Calls Tryz.prog 51 #[.agg #[.int .i64 day, .slice fA fs.length fc, .slice cA cs.length cc], .agg #[.int .u8 9, .string rr, .string nn, .int .i64 dd, .slice A s.length c]] w _
  clear hin hE hB hS
  obtain ⟨e0, e1, e2, c0, c1, c2, c3, c4⟩ := HG.out _ HW1.out
  go_enter Tryz.func51, Tryz.ntmps51
  go_wp2_with ((go_at_call 89; ((with_reducible refine HF.out.mono ?_); rintro x w2 ⟨rfl, hb⟩; have HWF := Lib.hid hb; clear hb)))
  all_goals go_ret2
  all_goals exact ⟨rfl, btO HB.out HWF.out⟩
set_option maxRecDepth 100000 in
set_option maxHeartbeats 6400000 in
theorem ptru_13 (v : Bool) (e : Int) (rr nn : ByteArray) (dd : Int) (A : Option Addr) (c : Nat) (s : List Ex) (E : Ev) (day : Int) (w : World) (hin : Ex.In w (.mk 13 rr nn dd A c s)) (hE : E.Inv w) (hq : ∀ W, Ex.In W (.mk 13 rr nn dd A c s) → E.Inv W → Calls Tryz.prog 92 #[evV day E, Ex.val (.mk 13 rr nn dd A c s)] W (TrE v e W)) :
    Calls Tryz.prog 52 #[evV day E, Ex.val (.mk 13 rr nn dd A c s)] w (TrE v e w) := by
  obtain ⟨fA, fs, fc, cA, cs, cc⟩ := E
  obtain ⟨w1, hw1, hB, hS⟩ := pv_begin w day 13 rr nn dd A s.length c fA fs.length fc cA cs.length cc
  have HB := Lib.hid hB
  have HG := Lib.hid (fun W (hW : Below w1.heap.size w1 W) => hS.below hW)
  have HF : Hid (Calls Tryz.prog 92 #[.agg #[.int .i64 day, .slice fA fs.length fc, .slice cA cs.length cc], .agg #[.int .u8 13, .string rr, .string nn, .int .i64 dd, .slice A s.length c]] w1 (TrE v e w1)) := hq w1 (hin.below hB) (hE.below hB)
  clear hq
  have HW1 := Lib.hid (Below.refl w1.heap.size w1)
  show Calls Tryz.prog 52 #[.agg #[.int .i64 day, .slice fA fs.length fc, .slice cA cs.length cc], .agg #[.int .u8 13, .string rr, .string nn, .int .i64 dd, .slice A s.length c]] w _
  clear hin hE hB hS
  obtain ⟨e0, e1, e2, c0, c1, c2, c3, c4⟩ := HG.out _ HW1.out
  go_enter Tryz.func52, Tryz.ntmps52
  go_wp2_with ((go_at_call 92; ((with_reducible refine HF.out.mono ?_); rintro x w2 ⟨rfl, hb⟩; have HWF := Lib.hid hb; clear hb)))
  all_goals go_ret2
  all_goals exact ⟨rfl, btO HB.out HWF.out⟩
set_option maxRecDepth 100000 in
set_option maxHeartbeats 6400000 in
theorem ptru_14 (v : Bool) (e : Int) (rr nn : ByteArray) (dd : Int) (A : Option Addr) (c : Nat) (s : List Ex) (E : Ev) (day : Int) (w : World) (hin : Ex.In w (.mk 14 rr nn dd A c s)) (hE : E.Inv w) (hq : ∀ W, Ex.In W (.mk 14 rr nn dd A c s) → E.Inv W → Calls Tryz.prog 93 #[evV day E, Ex.val (.mk 14 rr nn dd A c s)] W (TrE v e W)) :
    Calls Tryz.prog 52 #[evV day E, Ex.val (.mk 14 rr nn dd A c s)] w (TrE v e w) := by
  obtain ⟨fA, fs, fc, cA, cs, cc⟩ := E
  obtain ⟨w1, hw1, hB, hS⟩ := pv_begin w day 14 rr nn dd A s.length c fA fs.length fc cA cs.length cc
  have HB := Lib.hid hB
  have HG := Lib.hid (fun W (hW : Below w1.heap.size w1 W) => hS.below hW)
  have HF : Hid (Calls Tryz.prog 93 #[.agg #[.int .i64 day, .slice fA fs.length fc, .slice cA cs.length cc], .agg #[.int .u8 14, .string rr, .string nn, .int .i64 dd, .slice A s.length c]] w1 (TrE v e w1)) := hq w1 (hin.below hB) (hE.below hB)
  clear hq
  have HW1 := Lib.hid (Below.refl w1.heap.size w1)
  show Calls Tryz.prog 52 #[.agg #[.int .i64 day, .slice fA fs.length fc, .slice cA cs.length cc], .agg #[.int .u8 14, .string rr, .string nn, .int .i64 dd, .slice A s.length c]] w _
  clear hin hE hB hS
  obtain ⟨e0, e1, e2, c0, c1, c2, c3, c4⟩ := HG.out _ HW1.out
  go_enter Tryz.func52, Tryz.ntmps52
  go_wp2_with ((go_at_call 93; ((with_reducible refine HF.out.mono ?_); rintro x w2 ⟨rfl, hb⟩; have HWF := Lib.hid hb; clear hb)))
  all_goals go_ret2
  all_goals exact ⟨rfl, btO HB.out HWF.out⟩
set_option maxRecDepth 100000 in
set_option maxHeartbeats 6400000 in
theorem ptru_15 (v : Bool) (e : Int) (rr nn : ByteArray) (dd : Int) (A : Option Addr) (c : Nat) (s : List Ex) (E : Ev) (day : Int) (w : World) (hin : Ex.In w (.mk 15 rr nn dd A c s)) (hE : E.Inv w) (hq : ∀ W, Ex.In W (.mk 15 rr nn dd A c s) → E.Inv W → Calls Tryz.prog 94 #[evV day E, Ex.val (.mk 15 rr nn dd A c s)] W (TrE v e W)) :
    Calls Tryz.prog 52 #[evV day E, Ex.val (.mk 15 rr nn dd A c s)] w (TrE v e w) := by
  obtain ⟨fA, fs, fc, cA, cs, cc⟩ := E
  obtain ⟨w1, hw1, hB, hS⟩ := pv_begin w day 15 rr nn dd A s.length c fA fs.length fc cA cs.length cc
  have HB := Lib.hid hB
  have HG := Lib.hid (fun W (hW : Below w1.heap.size w1 W) => hS.below hW)
  have HF : Hid (Calls Tryz.prog 94 #[.agg #[.int .i64 day, .slice fA fs.length fc, .slice cA cs.length cc], .agg #[.int .u8 15, .string rr, .string nn, .int .i64 dd, .slice A s.length c]] w1 (TrE v e w1)) := hq w1 (hin.below hB) (hE.below hB)
  clear hq
  have HW1 := Lib.hid (Below.refl w1.heap.size w1)
  show Calls Tryz.prog 52 #[.agg #[.int .i64 day, .slice fA fs.length fc, .slice cA cs.length cc], .agg #[.int .u8 15, .string rr, .string nn, .int .i64 dd, .slice A s.length c]] w _
  clear hin hE hB hS
  obtain ⟨e0, e1, e2, c0, c1, c2, c3, c4⟩ := HG.out _ HW1.out
  go_enter Tryz.func52, Tryz.ntmps52
  go_wp2_with ((go_at_call 94; ((with_reducible refine HF.out.mono ?_); rintro x w2 ⟨rfl, hb⟩; have HWF := Lib.hid hb; clear hb)))
  all_goals go_ret2
  all_goals exact ⟨rfl, btO HB.out HWF.out⟩
set_option maxRecDepth 100000 in
set_option maxHeartbeats 6400000 in
theorem pnum_e (kk : Int) (k1 : (kk == 1) = false) (k2 : (kk == 2) = false) (k3 : (kk == 3) = false) (k9 : (kk == 9) = false) (va vb : ByteArray) (ea : Int) (rr nn : ByteArray) (dd : Int) (A : Option Addr) (c : Nat) (s : List Ex) (E : Ev) (day : Int) (w : World) (hin : Ex.In w (.mk kk rr nn dd A c s)) (hE : E.Inv w) (hq : ∀ W, Ex.In W (.mk kk rr nn dd A c s) → E.Inv W → Calls Tryz.prog 90 #[evV day E, Ex.val (.mk kk rr nn dd A c s)] W (PrE va vb ea W)) (hea : (ea != 0) = true) :
    Calls Tryz.prog 51 #[evV day E, Ex.val (.mk kk rr nn dd A c s)] w (StE ⟨#[]⟩ ea w) := by
  obtain ⟨fA, fs, fc, cA, cs, cc⟩ := E
  obtain ⟨w1, hw1, hB, hS⟩ := pv_begin w day kk rr nn dd A s.length c fA fs.length fc cA cs.length cc
  have HB := Lib.hid hB
  have HG := Lib.hid (fun W (hW : Below w1.heap.size w1 W) => hS.below hW)
  have HF : Hid (Calls Tryz.prog 90 #[.agg #[.int .i64 day, .slice fA fs.length fc, .slice cA cs.length cc], .agg #[.int .u8 kk, .string rr, .string nn, .int .i64 dd, .slice A s.length c]] w1 (PrE va vb ea w1)) := hq w1 (hin.below hB) (hE.below hB)
  clear hq
  have HW1 := Lib.hid (Below.refl w1.heap.size w1)
  show Calls Tryz.prog 51 #[.agg #[.int .i64 day, .slice fA fs.length fc, .slice cA cs.length cc], .agg #[.int .u8 kk, .string rr, .string nn, .int .i64 dd, .slice A s.length c]] w _
  clear hin hE hB hS
  obtain ⟨e0, e1, e2, c0, c1, c2, c3, c4⟩ := HG.out _ HW1.out
  go_enter Tryz.func51, Tryz.ntmps51
  go_wp2_with ((go_at_call 90; ((with_reducible refine HF.out.mono ?_); rintro x w2 ⟨rfl, hb⟩; have HW2 := Lib.hid hb; clear hb)))
  all_goals go_ret2
  all_goals exact ⟨rfl, btO HB.out (btO HW2.out (belO _ _))⟩
set_option maxRecDepth 100000 in
set_option maxHeartbeats 6400000 in
theorem ptru_e (kk : Int) (k13 : (kk == 13) = false) (k14 : (kk == 14) = false) (k15 : (kk == 15) = false) (va vb : ByteArray) (ea : Int) (rr nn : ByteArray) (dd : Int) (A : Option Addr) (c : Nat) (s : List Ex) (E : Ev) (day : Int) (w : World) (hin : Ex.In w (.mk kk rr nn dd A c s)) (hE : E.Inv w) (hq : ∀ W, Ex.In W (.mk kk rr nn dd A c s) → E.Inv W → Calls Tryz.prog 90 #[evV day E, Ex.val (.mk kk rr nn dd A c s)] W (PrE va vb ea W)) (hea : (ea != 0) = true) :
    Calls Tryz.prog 52 #[evV day E, Ex.val (.mk kk rr nn dd A c s)] w (TrE false ea w) := by
  obtain ⟨fA, fs, fc, cA, cs, cc⟩ := E
  obtain ⟨w1, hw1, hB, hS⟩ := pv_begin w day kk rr nn dd A s.length c fA fs.length fc cA cs.length cc
  have HB := Lib.hid hB
  have HG := Lib.hid (fun W (hW : Below w1.heap.size w1 W) => hS.below hW)
  have HF : Hid (Calls Tryz.prog 90 #[.agg #[.int .i64 day, .slice fA fs.length fc, .slice cA cs.length cc], .agg #[.int .u8 kk, .string rr, .string nn, .int .i64 dd, .slice A s.length c]] w1 (PrE va vb ea w1)) := hq w1 (hin.below hB) (hE.below hB)
  clear hq
  have HW1 := Lib.hid (Below.refl w1.heap.size w1)
  show Calls Tryz.prog 52 #[.agg #[.int .i64 day, .slice fA fs.length fc, .slice cA cs.length cc], .agg #[.int .u8 kk, .string rr, .string nn, .int .i64 dd, .slice A s.length c]] w _
  clear hin hE hB hS
  obtain ⟨e0, e1, e2, c0, c1, c2, c3, c4⟩ := HG.out _ HW1.out
  go_enter Tryz.func52, Tryz.ntmps52
  go_wp2_with ((go_at_call 90; ((with_reducible refine HF.out.mono ?_); rintro x w2 ⟨rfl, hb⟩; have HW2 := Lib.hid hb; clear hb)))
  all_goals go_ret2
  all_goals exact ⟨rfl, btO HB.out (btO HW2.out (belO _ _))⟩
end Go.Proofs.YtnomccgdajcfiaaGreatDoor

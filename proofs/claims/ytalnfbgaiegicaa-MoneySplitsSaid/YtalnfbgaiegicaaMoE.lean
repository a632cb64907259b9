/- Layer 7: the program's walks: names, units, powers, what an amount is. -/
import Derived.Test.YtalnfbgaiegicaaMoB
import Derived.Maps.Own
import Derived.Maps.OwnSet
import Derived.Maps.Views
namespace Go.Proofs.Ytalnfbgaiegicaa
open Go Go.RowKit Go.Maps

set_option maxHeartbeats 400000 in
theorem pamount_any (n : Int) (b : Bool) (h : amB n = b) (w : World) :
    Calls Try.prog 9 #[.int .i64 n] w fun e w' => e = .returned (.bool b) ∧ w = w' := by
  unfold amB at h
  by_cases h0 : -1125899906842624 ≤ n
  · rw [decide_eq_true h0, Bool.true_and] at h
    go_enter Try.func9, Try.ntmps9
    go_wp2
    go_ret
    exact ⟨ret_boolM (by rw [← h]), rfl⟩
  · rw [decide_eq_false h0, Bool.false_and] at h
    have h1 : n < -1125899906842624 := by omega
    subst h
    go_enter Try.func9, Try.ntmps9
    go_wp2
    go_ret
    exact ⟨ret_boolM (by simp), rfl⟩
/-- A store of a map's literal, at its operation. -/
theorem wpList_insert_own {H : Type} {P : Program} (w : World) {ops : Array Oper} {rest : List Oper} {o : Oper} {a : Act} {Q : Exit → Act → World → Prop}
    (hg : o.guard = none) (m x v : Operand) (t : TypeId) (hop : o.op = Op.insert t m x v)
    (k e : TypeId) (K : Keyed P k) (ht : P.underlying t = some (.map k e)) (R : Value → Option (DataW H × List MemPlace)) (b n : Nat) (D : DataW H)
    (hm : a.eval m = .map (some b)) (hown : w.ownsMap P k R b n D) (hn : n < maxLen) (key val : Value) (kl : Lit) (hx : a.eval x = key) (hv : a.eval v = val) (hkey : keyOf P k key = some kl)
    (d : DataW H) (ps : List MemPlace) (hval : R val = some (d, ps))
    (hK : ∀ w', w'.ownsMap P k R b (n + 1) (D.put kl d) → w.grownBy w' (some b) → wpList P ops Q rest (a.put o.dst undef) w') :
    wpList P ops Q (o :: rest) a w := by
  refine wpList_plain hg fun K' hK' => ?_
  obtain ⟨w', hrun, r1, r2⟩ := hown.update K ht hn hkey hval
  unfold Oper.wp
  simp [execOp, hop, hm, hx, hv, hrun, Result.andThen]
  exact hK' _ _ (hK w' r1 r2)
/-- The table of the units. -/
def curD : DataW Unit := ((((((DataW.map []).put (.string [74, 80, 89]) (.lit (.int .i64 0))).put (.string [75, 82, 87]) (.lit (.int .i64 0))).put (.string [86, 78, 68]) (.lit (.int .i64 0))).put (.string [66, 72, 68]) (.lit (.int .i64 3))).put (.string [75, 87, 68]) (.lit (.int .i64 3))).put (.string [84, 78, 68]) (.lit (.int .i64 3))
theorem strK : Keyed Try.prog 9 := string_keyed Try.underlying9
theorem zeroIM (w : World) : (zeroValue 3).run Try.prog w = .ok (.int .i64 0) w := by kernel_rfl
theorem keyM {s : ByteArray} (h : s.size ≤ 40) : keyOf Try.prog 9 (.string s) = some (.string s.data.toList) := WideMaps.keyOf_string_mk Try.underlying9 (by unfold maxLen; omega)
def UniR (w : World) (e : Ending) (w' : World) : Prop := ∃ B, e = .returned (.map (some B)) ∧ w'.ownsMap Try.prog 9 (plainElem Try.prog 3) B 6 curD ∧ Below w.heap.size w w'
/-- What the table says. -/
theorem cur_keys {l : List UInt8} {k : List UInt8} (h : l ≠ k) : (Lit.string l : Lit) ≠ Lit.string k := fun e => h (by injection e)
theorem cur_find (l : List UInt8) : (Maps.has curD (.string l) = true ∧ curD.atKey (.string l) (.lit (.int .i64 0)) = .lit (.int .i64 (unU l)) ∧ unU l ≠ 2) ∨ (Maps.has curD (.string l) = false ∧ unU l = 2) := by
  by_cases h1 : l = [74, 80, 89]
  · subst h1; exact .inl ⟨by rfl, by rfl, by decide⟩
  by_cases h2 : l = [75, 82, 87]
  · subst h2; exact .inl ⟨by rfl, by rfl, by decide⟩
  by_cases h3 : l = [86, 78, 68]
  · subst h3; exact .inl ⟨by rfl, by rfl, by decide⟩
  by_cases h4 : l = [66, 72, 68]
  · subst h4; exact .inl ⟨by rfl, by rfl, by decide⟩
  by_cases h5 : l = [75, 87, 68]
  · subst h5; exact .inl ⟨by rfl, by rfl, by decide⟩
  by_cases h6 : l = [84, 78, 68]
  · subst h6; exact .inl ⟨by rfl, by rfl, by decide⟩
  · right
    refine ⟨?_, ?_⟩
    · unfold curD
      rw [has_put_other (cur_keys h6), has_put_other (cur_keys h5), has_put_other (cur_keys h4), has_put_other (cur_keys h3), has_put_other (cur_keys h2), has_put_other (cur_keys h1)]
      rfl
    · unfold unU
      rw [if_neg (by simp [h1, h2, h3]), if_neg (by simp [h4, h5, h6])]
def UnR (v e : Int) (w : World) (x : Ending) (w' : World) : Prop := x = .returned (.tuple #[.int .i64 v, .int .i64 e]) ∧ Below w.heap.size w w'
end Go.Proofs.Ytalnfbgaiegicaa

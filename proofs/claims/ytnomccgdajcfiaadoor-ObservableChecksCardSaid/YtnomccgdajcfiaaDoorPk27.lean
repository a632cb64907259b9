/- Joined: ObX, ObB2, OeV. -/
import Derived.Test.YtnomccgdajcfiaaDoorPk21
import Derived.Test.YtnomccgdajcfiaaDoorPk26
import Derived.Test.YtnomccgdajcfiaaDoorPk16
import Derived.Test.YtnomccgdajcfiaaDoorPk17
import Derived.OwnWalk
import Derived.Laws.OwnMore
import Derived.Laws.AppendOwn
import Derived.Deep.RegionHeld3
import Derived.Deep.RegionLaw
/- Layer 8: lists of structs in rows of the call's own; append to an empty slice. -/
namespace Go.Proofs.YtnomccgdajcfiaaDoor
open Go Go.RowKit Go.BigFrame
def rowsV {α : Type} (enc : α → List Value) (l : List α) : List Value := l.flatMap enc
theorem rowsV_snoc {α : Type} (enc : α → List Value) (l : List α) (x : α) : rowsV enc (l ++ [x]) = rowsV enc l ++ enc x := by unfold rowsV; simp
theorem rowsV_len {α : Type} {enc : α → List Value} {k : Nat} (hk : ∀ x, (enc x).length = k) (l : List α) : (rowsV enc l).length = l.length * k := by
  induction l with
  | nil => simp [rowsV]
  | cons x l ih =>
    show (enc x ++ rowsV enc l).length = _
    rw [List.length_append, ih, hk, List.length_cons, Nat.add_mul]; omega
theorem rowsV_get {α : Type} {enc : α → List Value} {k : Nat} (hk : ∀ x, (enc x).length = k) (l : List α) : ∀ (j : Nat) (hj : j < l.length) (i : Nat), i < k → (rowsV enc l)[j * k + i]? = (enc l[j])[i]? := by
  induction l with
  | nil => intro j hj; simp at hj
  | cons x l ih =>
    intro j hj i hi
    show (enc x ++ rowsV enc l)[j * k + i]? = _
    cases j with
    | zero =>
      rw [Nat.zero_mul, Nat.zero_add, List.getElem?_append_left (by rw [hk]; exact hi)]
      rfl
    | succ j =>
      rw [List.getElem?_append_right (by rw [hk, Nat.add_mul]; omega), hk, show (j + 1) * k + i - k = j * k + i by rw [Nat.add_mul]; omega]
      exact ih j (by simpa using hj) i hi
theorem RowsR.of_own {α : Type} {enc : α → List Value} {k : Nat} (hk : ∀ x, (enc x).length = k) (h0 : 0 < k) {w : World} {base : Nat} {e : TypeId} {n : Nat} {v : Value} {l : List α} (h : w.ownsRow base e k v n (rowsV enc l)) :
    ∃ A c, v = .slice A n c ∧ n = l.length ∧ RowsR w A k enc l ∧ (A = none → c = 0) ∧ (∀ b o, A = some ⟨b, o, none⟩ → base ≤ b ∧ o = 0) ∧ n ≤ c ∧ c ≤ maxLen := by
  have hl : n = l.length := by
    have := h.1
    rw [rowsV_len hk] at this
    exact (Nat.eq_of_mul_eq_mul_right h0 this).symm
  rcases h.2 with ⟨hv, hn⟩ | ⟨g, cap, cur, hv, hb, hh, hnc, hm, _⟩
  · refine ⟨none, 0, by rw [hv, hn], hl, ?_, fun _ => rfl, fun b o h => (by cases h), by omega, by unfold maxLen; omega⟩
    intro j hj
    omega
  · refine ⟨some ⟨g, 0, none⟩, cap, hv, hl, ?_, fun h => (by cases h), fun b o h => ?_, hnc, hm⟩
    · intro j hj
      refine ⟨g, 0, rfl, lt_of_block hh, fun i u hu => ?_⟩
      have hi : i < k := by rw [← hk l[j]]; exact (List.getElem?_eq_some_iff.1 hu).1
      subst hv
      have := h.cells (g := g) rfl (j * k + i) u (by rw [rowsV_get hk l j hj i hi]; exact hu)
      rwa [add_off] at this
    · injection h with h
      injection h with h1 h2 _
      subst h1 h2
      exact ⟨hb, rfl⟩
section
variable {P : Program} {w : World}
end
section
variable {P : Program} {w : World} {α : Type} {enc : α → List Value} {k : Nat}
end
end Go.Proofs.YtnomccgdajcfiaaDoor
/- Layer 8: an environment, a fixing, a choice among a law's arguments, opened. -/
namespace Go.Proofs.YtnomccgdajcfiaaDoor
open Go Go.RowKit
section
variable {H : Type} {enc : TypeId × Value → H} {W : World}
end
end Go.Proofs.YtnomccgdajcfiaaDoor
/- Layer 8: the arguments of the laws, opened; the variables that the rows lay. -/
namespace Go.Proofs.YtnomccgdajcfiaaDoor
open Go Go.ChangeShapes Go.WideShapes Go.ChangeAt Go.RowKit
theorem hwt_of {H : Type} {P : Program} {ts : List TypeId} {ds : List (DataW H)} (hsz : (DataW.weightsEach P ts ds).all (· ≤ reachBytes) = true) {j : Nat} {t : TypeId} {d : DataW H} (hj : ts[j]? = some t) (hd : ds[j]? = some d) : ∀ n ∈ DataW.weights P t d, n ≤ reachBytes := fun n hn =>
  of_decide_eq_true (List.all_eq_true.1 hsz _ (DataW.weights_mem_each hj hd n hn))
section
variable {H : Type} {enc : TypeId × Value → H} {W : World} {v : Value} {d : DataW H} {p : List MemPlace} {r : Reach} {b0 : Nat} {ts : List TypeId} {ds : List (DataW H)} (hsz : (DataW.weightsEach Tryd.prog ts ds).all (· ≤ reachBytes) = true) {j : Nat} (hd : ds[j]? = some d)
include hsz hd
set_option maxRecDepth 100000 in
theorem open_expr (hv : Value.okWide Tryd.prog W r b0 25 v) (h : DataW.Trod enc Tryd.prog W 0 (fun _ => true) true 25 v d p) (hj : ts[j]? = some 25) : ∃ T : Ex, v = T.val ∧ T.In W := by
  obtain ⟨cs, rfl, -⟩ := okWide_struct Tryd.underlying25 hv
  obtain ⟨fuel, hf⟩ := h
  obtain ⟨T, e, hT⟩ := open_exF fuel _ _ hf (hwt_of hsz hj hd)
  refine ⟨T, ?_, hT⟩
  have e : cs.toList = T.cel := e
  rw [show cs = T.cel.toArray by rw [← e]]
  rfl
end
theorem obvar_Checks {W : World} (h : laidMetH Tryd.prog Rows.observableChecksRow.laid W) (hs : W.ShapedOpen Tryd.prog) : VarR W := by -- 3
  rw [MakeChecks.laidMetH_plain _ _ _ (by kernel_rfl)] at h
  have h1 : laidMet Tryd.prog _ W := h.tail
  have t1 : Lib.TabIs Tryd.prog W "math/bits.deBruijn64tab" .u8 db64 := Lib.tabIs_of_head gDb64 (t := 128) (by kernel_rfl) Tryd.underlying128 Tryd.underlying5 (by kernel_rfl) (by kernel_rfl) h1
  have c1 := t1.cell gDb64 0 (by decide)
  have h2 := h1.tail
  have t2 : Lib.TabIs Tryd.prog W "internal/strconv.uint64pow10" .u64 Lib.pow10Tab := Lib.tabIs_of_head gTab (t := 123) (by kernel_rfl) Tryd.underlying123 Tryd.underlying100 (by kernel_rfl) (by kernel_rfl) h2
  exact varr_of ⟨by have := lt_of_cell c1; omega, t2⟩ hs
end Go.Proofs.YtnomccgdajcfiaaDoor

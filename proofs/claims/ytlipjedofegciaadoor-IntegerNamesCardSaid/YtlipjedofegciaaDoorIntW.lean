/- Words for memory: a slice that reads as a list, whatever its elements' encoding; what a call of the seat's own hands on. -/
import Derived.WalkKit
import Derived.WalkSpells
import Derived.Lib.Hide
import Derived.Maps.AppendAt
import Derived.Lib.AppendIntMem
import Derived.Laws.IdiomStrings
namespace Go.Proofs.YtlipjedofegciaaDoor
open Go Go.RowKit

/-- The slice value's address A reads as the list xs under enc: each element's cell, by its index. -/
def SlA {α : Type} (enc : α → Value) (w : World) (A : Option Addr) (xs : List α) : Prop :=
  ∀ j x, xs[j]? = some x → ∃ b o, A = some ⟨b, o, none⟩ ∧ b < w.heap.size ∧ w.cell? ⟨b, o + j, none⟩ = some (enc x)

section
variable {α : Type} {enc : α → Value} {w w' : World} {A : Option Addr} {xs : List α}
theorem SlA.nil : SlA enc w A ([] : List α) := fun j x h => by simp at h
theorem SlA.below (h : SlA enc w A xs) (hb : Below w.heap.size w w') : SlA enc w' A xs := fun j x hx => by
  obtain ⟨b, o, h1, h2, h3⟩ := h j x hx
  exact ⟨b, o, h1, Nat.lt_of_lt_of_le h2 hb.size, (hb.cell (p := ⟨b, o + j, none⟩) h2).trans h3⟩
theorem SlA.get {j : Nat} (h : SlA enc w A xs) (hj : j < xs.length) : ∃ b o, A = some ⟨b, o, none⟩ ∧ b < w.heap.size ∧ w.cell? ⟨b, o + j, none⟩ = some (enc xs[j]) :=
  h j _ (List.getElem?_eq_getElem hj)
theorem SlA.take {k : Nat} (h : SlA enc w A xs) : SlA enc w A (xs.take k) := fun j x hx => by
  rw [List.getElem?_take] at hx
  split at hx
  · exact h j x hx
  · simp at hx
/-- Two reads of one slice: the same block and offset. -/
theorem SlA.all (h : SlA enc w A xs) (hne : xs ≠ []) : ∃ b o, A = some ⟨b, o, none⟩ ∧ b < w.heap.size ∧ ∀ (j : Nat) (hj : j < xs.length), w.cell? ⟨b, o + j, none⟩ = some (enc xs[j]) := by
  obtain ⟨b, o, h1, h2, _⟩ := h.get (j := 0) (by cases xs <;> simp_all)
  refine ⟨b, o, h1, h2, fun j hj => ?_⟩
  obtain ⟨b', o', h1', _, h3⟩ := h.get hj
  rw [h1] at h1'
  simp only [Option.some.injEq, Addr.mk.injEq, and_true] at h1'
  obtain ⟨rfl, rfl⟩ := h1'
  exact h3
end

/-- What the call owns reads so. -/
theorem SlA.of_own {α : Type} {enc : α → Value} {w : World} {base e n : Nat} {v : Value} {xs : List α} (h : w.ownsRow base e 1 v n (xs.map enc)) :
    ∃ A c, v = .slice A n c ∧ n = xs.length ∧ SlA enc w A xs := by
  have hl : n = xs.length := by have := h.1; simpa using this.symm
  rcases h.2 with ⟨hv, hn⟩ | ⟨g, cap, cur, hv, hb, hh, _⟩
  · refine ⟨none, 0, by rw [hv, hn], hl, fun j x hx => ?_⟩
    have h0 : xs = [] := List.eq_nil_of_length_eq_zero (by omega)
    rw [h0] at hx
    simp at hx
  · refine ⟨some ⟨g, 0, none⟩, cap, hv, hl, fun j x hx => ⟨g, 0, rfl, lt_of_block hh, ?_⟩⟩
    subst hv
    have := h.cells (g := g) rfl j (enc x) (by rw [List.getElem?_map, hx]; rfl)
    by_cases hj : j = 0
    · subst hj
      simpa [Addr.add] using this
    · simpa [Addr.add, hj] using this

/-- A literal block of cells reads so. -/
theorem SlA.of_cells {α : Type} {enc : α → Value} {w : World} {b : Nat} {t : TypeId} {cs : Array Value} {xs : List α} (h : w.heap[b]? = some (.cells cs t (0, 0))) (hc : cs.toList = xs.map enc) : SlA enc w (some ⟨b, 0, none⟩) xs := fun j x hx => by
  refine ⟨b, 0, rfl, lt_of_block h, ?_⟩
  have : cs[j]? = some (enc x) := by rw [← Array.getElem?_toList, hc, List.getElem?_map, hx]; rfl
  simp [World.cell?, h, this]
/-- The next element. -/
theorem take_snoc {α : Type} (xs : List α) (k : Nat) (h : k < xs.length) : xs.take (k + 1) = xs.take k ++ [xs[k]] := by
  rw [List.take_add_one, List.getElem?_eq_getElem h]; rfl
/-- Every old cell and mark reads as before. -/
theorem bcell {W w1 : World} (hb : Below W.heap.size W w1) : (∀ b o, b < W.heap.size → w1.cell? ⟨b, o, none⟩ = W.cell? ⟨b, o, none⟩) ∧ (∀ b o, b < W.heap.size → w1.frozen? ⟨b, o, none⟩ = W.frozen? ⟨b, o, none⟩) :=
  ⟨fun b o h => hb.cell (p := ⟨b, o, none⟩) h, fun b o h => hb.frozen (p := ⟨b, o, none⟩) h⟩
theorem ret_bool {a b : Bool} (h : a = b) : Ending.returned (.bool a) = .returned (.bool b) := by rw [h]
theorem ret_str {a b : List UInt8} (h : a = b) : Ending.returned (.string ⟨a.toArray⟩) = .returned (.string ⟨b.toArray⟩) := by rw [h]
theorem int_eq {k : IntKind} {a b : Int} (h : a = b) : Value.int k a = Value.int k b := by rw [h]
theorem ret_int {k : IntKind} {a b : Int} (h : a = b) : Ending.returned (.int k a) = .returned (.int k b) := by rw [h]
/-- One element appended to a row of the call's own: the element has just been laid in a block of one cell. -/
theorem wpList_app1 {P : Program} {ops : Array Oper} {rest : List Oper} {o : Oper} {a : Act} {Q : Exit → Act → World → Prop} {w : World} {base : Nat} {e : TypeId} {v : Value} {n : Nat} {xs : List Value} (hown : w.ownsRow base e 1 v n xs) (x : Value) (hgd : o.guard = none) (s y : Operand) (t : TypeId)
    (ho : o.op = .call { callee := .builtin .append, args := #[s, y], argTypes := #[t, t] })
    (i : TypeInfo) (z : Value) (bytes : Nat) (ht : P.underlying t = some (.slice e)) (hi : P.info? e = some i) (hz : i.zero = some z)
    (hsize : i.size = 1) (hby : i.bytes = bytes) (hzs : z.cells.size = 1)
    (hs : a.eval s = v) (hx : a.eval y = .slice (some ⟨w.heap.size, 0, none⟩) 1 1) (h1 : x.oneCell' = true) (h63 : n + 1 ≤ maxLen) (hbytes : (n + 1) * bytes ≤ 140737488355328) (hbase : base ≤ w.heap.size)
    (h : ∀ v' w', w'.ownsRow base e 1 v' (n + 1) (xs ++ [x]) → Below base w w' → wpList P ops Q rest (a.put o.dst v') w') : wpList P ops Q (o :: rest) a (w.alloc (.cells #[x] e)) := by
  refine wpList_append_own (w.alloc (.cells #[x] e)) hgd s y t ho base e i z 1 bytes ht hi hz hsize hby hzs (by decide) v n xs hs (hown.alloc _) ⟨w.heap.size, 0, none⟩ 1 1 [x] hx rfl ?_ ?_ h63 hbytes (by simp; omega) ?_
  · intro j u hj
    match j, hj with
    | 0, hj =>
      obtain rfl : x = u := by simpa using hj
      simp [Addr.add]
  · intro u hu
    obtain rfl : u = x := by simpa using hu
    exact h1
  · intro v' w' h2 h3 _
    exact h v' w' h2 (((Below.refl _ _).alloc hbase _).grown h3 (by simp; omega) fun k hk => (hown.lt k hk).1)
/-- Bytes of the call's own, as a string. -/
theorem conv_own {P : Program} {w : World} {base e : TypeId} {n : Nat} {v : Value} {l : List UInt8} (h : w.ownsRow base e 1 v n (Lib.byteCells l)) (src dst : TypeId) (hs : P.underlying src = some (.slice e)) (he : P.underlying e = some (.int .u8)) (hd : P.underlying dst = some .string) :
    (convert src dst v).run P w = .ok (.string ⟨l.toArray⟩) w := by
  have hl : n = l.length := by have := h.1; simpa [Lib.byteCells] using this.symm
  rcases h.2 with ⟨hv, hn⟩ | ⟨g, cap, cur, hv, hb, hh, _⟩
  · have h0 : l = [] := List.eq_nil_of_length_eq_zero (by omega)
    subst hv; subst h0
    rw [run_convert_bytes_string w src dst e none 0 0 hs he hd]
    rfl
  · subst hv
    rw [hl]
    refine run_convert_bytes_back w src dst e ⟨g, 0, none⟩ cap l hs he hd fun j hj => ?_
    exact h.cells (g := g) rfl j _ (by simp [Lib.byteCells, hj])
theorem own_byte {w : World} {base : Nat} {e : TypeId} {v : Value} {k : Nat} {l : List UInt8} {n : Nat} {z : Int} (h : w.ownsRow base e 1 v (k + 1) (Lib.byteCells l ++ [.int .u8 z])) (hn : (n : Int) = z) (h256 : n < 256) : w.ownsRow base e 1 v (k + 1) (Lib.byteCells (l ++ [UInt8.ofNat n])) := by
  have : Lib.byteCells (l ++ [UInt8.ofNat n]) = Lib.byteCells l ++ [.int .u8 z] := by
    rw [← hn]
    simp [Lib.byteCells]
    omega
  rw [this]
  exact h
/-- One step behind the other. -/
theorem bt {a b c : World} (h : Below a.heap.size a b) (k : Below b.heap.size b c) : Below a.heap.size a c := h.trans (k.mono h.size)
end Go.Proofs.YtlipjedofegciaaDoor

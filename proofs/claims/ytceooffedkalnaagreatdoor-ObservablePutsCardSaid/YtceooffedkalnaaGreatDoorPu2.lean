/- Joined: ObB, ObD. -/
import Derived.Test.YtceooffedkalnaaGreatDoorPu1
import Derived.Below
import Derived.Deep.Slices
import Derived.Lib.SmallJoins
import Derived.ChangeSlices
import Derived.WideShapes
import Derived.Carry
import Derived.ProofKit
import Derived.OpenShut
import Derived.SizedLaws
/- Layer 8: expressions in memory, and among the arguments. -/
namespace Go.Proofs.YtceooffedkalnaaGreatDoor
open Go Go.RowKit Go.ChangeShapes Go.WideShapes
def RowC (w : World) (A : Option Addr) (k i : Nat) (cs : List Value) : Prop :=
  ∃ b o, A = some ⟨b, o, none⟩ ∧ b < w.heap.size ∧ ∀ j v, cs[j]? = some v → w.cell? ⟨b, o + (i * k + j), none⟩ = some v
theorem RowC.below {w w' : World} {A : Option Addr} {k i : Nat} {cs : List Value} (h : RowC w A k i cs) (hb : Below w.heap.size w w') : RowC w' A k i cs := by
  obtain ⟨b, o, h1, h2, h3⟩ := h
  exact ⟨b, o, h1, Nat.lt_of_lt_of_le h2 hb.size, fun j v hv => (hb.cell h2).trans (h3 j v hv)⟩
structure Ex.Bd (t : Ex) : Prop where
  k0 : 0 ≤ t.k
  k1 : t.k ≤ 255
  d0 : -9223372036854775808 ≤ t.d
  d1 : t.d ≤ 9223372036854775807
  r1 : t.r.size ≤ 140737488351232
  n1 : t.n.size ≤ 140737488351232
  l1 : t.sub.length ≤ t.c
  c1 : t.c ≤ 140737488351232
  nn : t.A = none → t.c = 0
mutual
def Ex.In (w : World) : Ex → Prop
  | .mk k r n d A c s => Ex.Bd (.mk k r n d A c s) ∧ Ex.Ins w A 0 s
def Ex.Ins (w : World) (A : Option Addr) : Nat → List Ex → Prop
  | _, [] => True
  | i, t :: l => RowC w A 5 i t.cel ∧ Ex.In w t ∧ Ex.Ins w A (i + 1) l
end
theorem Ex.ins_iff (w : World) (A : Option Addr) (l : List Ex) : ∀ i, Ex.Ins w A i l ↔ ∀ j (h : j < l.length), RowC w A 5 (i + j) l[j].cel ∧ Ex.In w l[j] := by
  induction l with
  | nil => intro i; simp [Ex.Ins]
  | cons t l ih =>
    intro i
    rw [Ex.Ins, ih]
    constructor
    · rintro ⟨h1, h2, h3⟩ j hj
      cases j with
      | zero => exact ⟨h1, h2⟩
      | succ j =>
        have := h3 j (by simpa using hj)
        rw [show i + (j + 1) = i + 1 + j by omega]
        exact this
    · intro h
      refine ⟨(h 0 (by simp)).1, (h 0 (by simp)).2, fun j hj => ?_⟩
      have := h (j + 1) (by simpa using hj)
      rw [show i + 1 + j = i + (j + 1) by omega]
      exact this
theorem Ex.in_mk (w : World) (k : Int) (r n : ByteArray) (d : Int) (A : Option Addr) (c : Nat) (s : List Ex) :
    Ex.In w (.mk k r n d A c s) ↔ Ex.Bd (.mk k r n d A c s) ∧ ∀ j (h : j < s.length), RowC w A 5 j s[j].cel ∧ Ex.In w s[j] := by
  rw [Ex.In, Ex.ins_iff]
  simp only [Nat.zero_add]
theorem Ex.In.bd {w : World} {t : Ex} (h : t.In w) : t.Bd := by
  obtain ⟨k, r, n, d, A, c, s⟩ := t
  exact ((Ex.in_mk ..).1 h).1
theorem Ex.In.get {w : World} {t : Ex} (h : t.In w) {j : Nat} (hj : j < t.sub.length) : RowC w t.A 5 j t.sub[j].cel ∧ Ex.In w t.sub[j] := by
  obtain ⟨k, r, n, d, A, c, s⟩ := t
  exact ((Ex.in_mk ..).1 h).2 j hj
theorem Ex.In.below {w w' : World} {t : Ex} (h : t.In w) (hb : Below w.heap.size w w') : t.In w' := by
  induction t using Ex.ind with
  | h k r n d A c s ih =>
    rw [Ex.in_mk] at h ⊢
    exact ⟨h.1, fun j hj => ⟨(h.2 j hj).1.below hb, ih _ (List.getElem_mem hj) (h.2 j hj).2⟩⟩
theorem spot_none {w : World} {a : Addr} {v : Value} (h : w.cell? a = some v) : a.spot = none ∧ a.block < w.heap.size := by
  constructor
  · unfold World.cell? at h
    split at h
    · split at h
      · cases h
      · next g => simpa using g
    · cases h
  · unfold World.cell? at h
    split at h
    · next g => exact lt_of_block g
    · cases h
theorem add_off (b o i : Nat) : (⟨b, o, none⟩ : Addr).add i = ⟨b, o + i, none⟩ := by
  unfold Addr.add
  split
  · next g => rw [g]; rfl
  · rfl
theorem size_lenO (s : ByteArray) : s.size = s.data.toList.length := Array.length_toList.symm
theorem w_strO {H : Type} {P : Program} {t : TypeId} (s : ByteArray) : s.data.toList.length ∈ DataW.weights (H := H) P t (.lit (.string s.data.toList)) := by
  rw [DataW.weights]; exact List.mem_singleton.2 rfl
theorem weightsAll_mem {H : Type} {P : Program} {e : TypeId} {d : DataW H} {n : Nat} (hn : n ∈ d.weights P e) : ∀ (l : List (DataW H)), d ∈ l → n ∈ DataW.weightsAll P e l
  | [], h => by simp at h
  | x :: r, h => by
    rw [DataW.weightsAll, List.mem_append]
    rcases List.mem_cons.1 h with rfl | h
    · exact .inl hn
    · exact .inr (weightsAll_mem hn r h)
section
variable {H : Type} {enc : TypeId × Value → H} {W : World}
end
end Go.Proofs.YtceooffedkalnaaGreatDoor
/- Layer 8: the statements' guard of expressions: count, bytes, Great. -/
namespace Go.Proofs.YtceooffedkalnaaGreatDoor
open Go Go.RowKit
theorem btO {a b c : World} (h : Below a.heap.size a b) (k : Below b.heap.size b c) : Below a.heap.size a c := h.trans (k.mono h.size)
theorem belO (w : World) (o : Obj) : Below w.heap.size w (w.alloc o) := (Below.refl _ w).alloc (Nat.le_refl _) _
theorem cellO {w w' : World} {p : Addr} {v : Value} (h : Below w.heap.size w w') (hc : w.cell? p = some v) : w'.cell? p = some v := (h.cell (spot_none hc).2).trans hc
structure Ex.Box (w : World) (b : Nat) (t : Ex) : Prop where
  c0 : w.cell? ⟨b, 0, none⟩ = some (.int .u8 t.k)
  c1 : w.cell? ⟨b, 1, none⟩ = some (.string t.r)
  c2 : w.cell? ⟨b, 2, none⟩ = some (.string t.n)
  c3 : w.cell? ⟨b, 3, none⟩ = some (.int .i64 t.d)
  c4 : w.cell? ⟨b, 4, none⟩ = some (.slice t.A t.sub.length t.c)
theorem Ex.Box.below {w w' : World} {b : Nat} {t : Ex} (h : Ex.Box w b t) (hb : Below w.heap.size w w') : Ex.Box w' b t := ⟨cellO hb h.c0, cellO hb h.c1, cellO hb h.c2, cellO hb h.c3, cellO hb h.c4⟩
theorem Ex.Box.new (w : World) (t : Ex) (ty : TypeId) : Ex.Box (w.alloc (.cells #[.int .u8 t.k, .string t.r, .string t.n, .int .i64 t.d, .slice t.A t.sub.length t.c] ty)) w.heap.size t := by
  refine ⟨?_, ?_, ?_, ?_, ?_⟩
  all_goals (rw [World.cell?_alloc_at _ _ _ _ rfl]; rfl)
theorem Ex.In.part {w : World} {k : Int} {r n : ByteArray} {d : Int} {A : Option Addr} {c : Nat} {s : List Ex} (h : Ex.In w (.mk k r n d A c s)) {j : Nat} (hj : j < s.length) : ∃ b o, A = some ⟨b, o, none⟩ ∧ b < w.heap.size ∧ Ex.In w s[j] ∧
    w.cell? ⟨b, o + j * 5, none⟩ = some (.int .u8 s[j].k) ∧ w.cell? ⟨b, o + j * 5 + 1, none⟩ = some (.string s[j].r) ∧ w.cell? ⟨b, o + j * 5 + 2, none⟩ = some (.string s[j].n) ∧ w.cell? ⟨b, o + j * 5 + 3, none⟩ = some (.int .i64 s[j].d) ∧ w.cell? ⟨b, o + j * 5 + 4, none⟩ = some (.slice s[j].A s[j].sub.length s[j].c) := by
  obtain ⟨⟨b, o, h1, h2, h3⟩, h4⟩ := h.get (j := j) hj
  refine ⟨b, o, h1, h2, h4, ?_, ?_, ?_, ?_, ?_⟩
  · exact h3 0 _ rfl
  · exact h3 1 _ rfl
  · exact h3 2 _ rfl
  · exact h3 3 _ rfl
  · exact h3 4 _ rfl
def IntRO (n : Int) (w : World) (e : Ending) (w' : World) : Prop := e = .returned (.int .i64 n) ∧ Below w.heap.size w w'
def BoolRO (b : Bool) (w : World) (e : Ending) (w' : World) : Prop := e = .returned (.bool b) ∧ Below w.heap.size w w'
end Go.Proofs.YtceooffedkalnaaGreatDoor

/- Joined: ObB, ObD. -/
import Derived.Test.YtbfimfjhdbpenaaGreatDoorPk1
import Derived.Below
import Derived.Deep.Slices
import Derived.Lib.SmallJoins
import Derived.ChangeSlices
import Derived.WideShapes
import Derived.Carry
import Derived.ProofKit
import Derived.OpenShut
import Derived.SizedLaws
/- Layer 8: expressions in memory, and among the arguments. -/
namespace Go.Proofs.YtbfimfjhdbpenaaGreatDoor
open Go Go.RowKit Go.ChangeShapes Go.WideShapes
def RowC (w : World) (A : Option Addr) (k i : Nat) (cs : List Value) : Prop :=
  ∃ b o, A = some ⟨b, o, none⟩ ∧ b < w.heap.size ∧ ∀ j v, cs[j]? = some v → w.cell? ⟨b, o + (i * k + j), none⟩ = some v
theorem RowC.below {w w' : World} {A : Option Addr} {k i : Nat} {cs : List Value} (h : RowC w A k i cs) (hb : Below w.heap.size w w') : RowC w' A k i cs := by
  obtain ⟨b, o, h1, h2, h3⟩ := h
  exact ⟨b, o, h1, Nat.lt_of_lt_of_le h2 hb.size, fun j v hv => (hb.cell h2).trans (h3 j v hv)⟩
structure Ex.Bd (t : Ex) : Prop where
  k0 : 0 ≤ t.k
  k1 : t.k ≤ 255
  d0 : -9223372036854775808 ≤ t.d
  d1 : t.d ≤ 9223372036854775807
  r1 : t.r.size ≤ 140737488351232
  n1 : t.n.size ≤ 140737488351232
  l1 : t.sub.length ≤ t.c
  c1 : t.sub.length ≤ 140737488351232
  nn : t.A = none → t.c = 0
mutual
def Ex.In (w : World) : Ex → Prop
  | .mk k r n d A c s => Ex.Bd (.mk k r n d A c s) ∧ Ex.Ins w A 0 s
def Ex.Ins (w : World) (A : Option Addr) : Nat → List Ex → Prop
  | _, [] => True
  | i, t :: l => RowC w A 5 i t.cel ∧ Ex.In w t ∧ Ex.Ins w A (i + 1) l
end
theorem Ex.ins_iff (w : World) (A : Option Addr) (l : List Ex) : ∀ i, Ex.Ins w A i l ↔ ∀ j (h : j < l.length), RowC w A 5 (i + j) l[j].cel ∧ Ex.In w l[j] := by
  induction l with
  | nil => intro i; simp [Ex.Ins]
  | cons t l ih =>
    intro i
    rw [Ex.Ins, ih]
    constructor
    · rintro ⟨h1, h2, h3⟩ j hj
      cases j with
      | zero => exact ⟨h1, h2⟩
      | succ j =>
        have := h3 j (by simpa using hj)
        rw [show i + (j + 1) = i + 1 + j by omega]
        exact this
    · intro h
      refine ⟨(h 0 (by simp)).1, (h 0 (by simp)).2, fun j hj => ?_⟩
      have := h (j + 1) (by simpa using hj)
      rw [show i + 1 + j = i + (j + 1) by omega]
      exact this
theorem Ex.in_mk (w : World) (k : Int) (r n : ByteArray) (d : Int) (A : Option Addr) (c : Nat) (s : List Ex) :
    Ex.In w (.mk k r n d A c s) ↔ Ex.Bd (.mk k r n d A c s) ∧ ∀ j (h : j < s.length), RowC w A 5 j s[j].cel ∧ Ex.In w s[j] := by
  rw [Ex.In, Ex.ins_iff]
  simp only [Nat.zero_add]
theorem Ex.In.bd {w : World} {t : Ex} (h : t.In w) : t.Bd := by
  obtain ⟨k, r, n, d, A, c, s⟩ := t
  exact ((Ex.in_mk ..).1 h).1
theorem Ex.In.get {w : World} {t : Ex} (h : t.In w) {j : Nat} (hj : j < t.sub.length) : RowC w t.A 5 j t.sub[j].cel ∧ Ex.In w t.sub[j] := by
  obtain ⟨k, r, n, d, A, c, s⟩ := t
  exact ((Ex.in_mk ..).1 h).2 j hj
theorem Ex.In.below {w w' : World} {t : Ex} (h : t.In w) (hb : Below w.heap.size w w') : t.In w' := by
  induction t using Ex.ind with
  | h k r n d A c s ih =>
    rw [Ex.in_mk] at h ⊢
    exact ⟨h.1, fun j hj => ⟨(h.2 j hj).1.below hb, ih _ (List.getElem_mem hj) (h.2 j hj).2⟩⟩
theorem spot_none {w : World} {a : Addr} {v : Value} (h : w.cell? a = some v) : a.spot = none ∧ a.block < w.heap.size := by
  constructor
  · unfold World.cell? at h
    split at h
    · split at h
      · cases h
      · next g => simpa using g
    · cases h
  · unfold World.cell? at h
    split at h
    · next g => exact lt_of_block g
    · cases h
theorem add_off (b o i : Nat) : (⟨b, o, none⟩ : Addr).add i = ⟨b, o + i, none⟩ := by
  unfold Addr.add
  split
  · next g => rw [g]; rfl
  · rfl
theorem size_lenO (s : ByteArray) : s.size = s.data.toList.length := Array.length_toList.symm
theorem w_strO {H : Type} {P : Program} {t : TypeId} (s : ByteArray) : s.data.toList.length ∈ DataW.weights (H := H) P t (.lit (.string s.data.toList)) := by
  rw [DataW.weights]; exact List.mem_singleton.2 rfl
theorem weightsAll_mem {H : Type} {P : Program} {e : TypeId} {d : DataW H} {n : Nat} (hn : n ∈ d.weights P e) : ∀ (l : List (DataW H)), d ∈ l → n ∈ DataW.weightsAll P e l
  | [], h => by simp at h
  | x :: r, h => by
    rw [DataW.weightsAll, List.mem_append]
    rcases List.mem_cons.1 h with rfl | h
    · exact .inl hn
    · exact .inr (weightsAll_mem hn r h)
section
variable {H : Type} {enc : TypeId × Value → H} {W : World}
set_option maxRecDepth 100000 in
theorem open_exF (fuel : Nat) : ∀ (cs : List Value) (x : DataW H × List MemPlace), DataW.trod enc Tryz.prog W 0 (fun _ => true) true fuel 26 cs = some x → (∀ n ∈ DataW.weights Tryz.prog 26 x.1, n ≤ reachBytes) → ∃ T : Ex, cs = T.cel ∧ T.In W := by
  induction fuel using Nat.strongRecOn with
  | _ fuel ih =>
  intro cs x hf hwt
  obtain ⟨xs, n, hn, hx, hcl, hlen, hg⟩ := DataW.trod_struct Tryz.underlying26 hf
  have k1 : Tryz.prog.cellsOf 3 = 1 := by kernel_rfl
  have k2 : Tryz.prog.cellsOf 5 = 1 := by kernel_rfl
  have k3 : Tryz.prog.cellsOf 23 = 1 := by kernel_rfl
  have k4 : Tryz.prog.cellsOf 9 = 1 := by kernel_rfl
  have k5 : Tryz.prog.cellsOf 24 = 1 := by kernel_rfl
  have k6 : Tryz.prog.cellsOf 26 = 5 := by kernel_rfl
  rw [k6] at hcl
  obtain ⟨c0, c1, c2, c3, c4, rfl⟩ : ∃ c0 c1 c2 c3 c4, cs = [c0, c1, c2, c3, c4] := by
    match cs, hcl with
    | [c0, c1, c2, c3, c4], _ => exact ⟨c0, c1, c2, c3, c4, rfl⟩
  obtain ⟨y0, y1, y2, y3, y4, rfl⟩ : ∃ y0 y1 y2 y3 y4, xs = [y0, y1, y2, y3, y4] := by
    match xs, hlen with
    | [y0, y1, y2, y3, y4], _ => exact ⟨y0, y1, y2, y3, y4, rfl⟩
  have g0 : DataW.trod enc Tryz.prog W 0 (fun _ => true) true n 5 [c0] = some y0 := by simpa [k1, k2, k3, k4, k5] using hg 0 _ rfl
  have g1 : DataW.trod enc Tryz.prog W 0 (fun _ => true) true n 23 [c1] = some y1 := by simpa [k1, k2, k3, k4, k5] using hg 1 _ rfl
  have g2 : DataW.trod enc Tryz.prog W 0 (fun _ => true) true n 9 [c2] = some y2 := by simpa [k1, k2, k3, k4, k5] using hg 2 _ rfl
  have g3 : DataW.trod enc Tryz.prog W 0 (fun _ => true) true n 3 [c3] = some y3 := by simpa [k1, k2, k3, k4, k5] using hg 3 _ rfl
  have g4 : DataW.trod enc Tryz.prog W 0 (fun _ => true) true n 24 [c4] = some y4 := by simpa [k1, k2, k3, k4, k5] using hg 4 _ rfl
  clear hg hf
  have hwe : ∀ (j : Nat) (t : TypeId) (d : DataW H), ([5, 23, 9, 3, 24] : List TypeId)[j]? = some t → ([y0.1, y1.1, y2.1, y3.1, y4.1] : List (DataW H))[j]? = some d → ∀ n ∈ d.weights Tryz.prog t, n ≤ reachBytes := by
    intro j t d ht hd n hn
    refine hwt n ?_
    rw [hx]
    show n ∈ DataW.weights Tryz.prog 26 (.agg [y0.1, y1.1, y2.1, y3.1, y4.1])
    rw [DataW.weights, Tryz.underlying26]
    exact DataW.weights_mem_each ht hd n hn
  clear hwt
  obtain ⟨k, h0, -, w0⟩ := DataW.trod_int Tryz.underlying5 g0
  obtain rfl : c0 = .int .u8 k := by simpa using h0
  obtain ⟨r, h1, x1, w1⟩ := DataW.trod_string Tryz.underlying23 g1
  obtain rfl : c1 = .string r := by simpa using h1
  obtain ⟨m, h2, x2, w2⟩ := DataW.trod_string Tryz.underlying9 g2
  obtain rfl : c2 = .string m := by simpa using h2
  obtain ⟨d, h3, -, w3⟩ := DataW.trod_int Tryz.underlying3 g3
  obtain rfl : c3 = .int .i64 d := by simpa using h3
  have w1 : r.size ≤ 140737488351232 := by
    have := hwe 1 _ _ rfl rfl r.data.toList.length (by rw [x1]; exact w_strO r)
    exact Nat.le_trans (Nat.le_of_eq (size_lenO r)) (Nat.le_trans this (by decide))
  have w2 : m.size ≤ 140737488351232 := by
    have := hwe 2 _ _ rfl rfl m.data.toList.length (by rw [x2]; exact w_strO m)
    exact Nat.le_trans (Nat.le_of_eq (size_lenO m)) (Nat.le_trans this (by decide))
  have b0 := bounds_u8 w0
  have b3 := bounds_i64 w3
  rcases DataW.trod_slice Tryz.underlying24 g4 with ⟨h4, -⟩ | ⟨a, len, cap, elems, rest, n2, hn2, h4, x4, -, hlc, -, hel, hget, hsp, -⟩
  · obtain rfl : c4 = .slice none 0 0 := by simpa using h4
    refine ⟨.mk k r m d none 0 [], rfl, ?_⟩
    rw [Ex.in_mk]
    exact ⟨⟨b0.1, b0.2, b3.1, b3.2, w1, w2, Nat.le_refl _, Nat.zero_le _, fun _ => rfl⟩, fun j hj => by simp at hj⟩
  · obtain rfl : c4 = .slice (some a) len cap := by simpa using h4
    rw [k6] at hget
    have hwy : ∀ n ∈ DataW.weights Tryz.prog 24 y4.1, n ≤ reachBytes := hwe 4 _ _ rfl rfl
    rw [x4, DataW.weights, Tryz.underlying24] at hwy
    have hby : Tryz.prog.bytesOf 26 = 72 := by kernel_rfl
    have hcm : cap ≤ 140737488351232 := by
      have h1 := hwy _ (List.mem_cons_self ..)
      rw [List.length_map, List.length_map, hel, (hsp rfl).1, hby] at h1
      have h2 : reachBytes = 140737488351232 := rfl
      omega
    have hE : ∀ i, i < len → ∃ T : Ex, (∃ cs, W.cells? 0 (a.add (i * 5)) 5 = some cs ∧ cs = T.cel) ∧ T.In W := by
      intro i hi
      have := hget i hi
      rw [List.getElem?_eq_getElem (by omega)] at this
      obtain ⟨cs', q1, q2⟩ := Option.bind_eq_some_iff.1 this
      obtain ⟨T, e, hT⟩ := ih n2 (by omega) cs' _ q2 (fun n hn => hwy n (by
        refine List.mem_cons_of_mem _ (List.mem_append_left _ (weightsAll_mem hn _ ?_))
        exact List.mem_map_of_mem (List.getElem_mem _)))
      exact ⟨T, ⟨cs', q1, e⟩, hT⟩
    haveI : Inhabited Ex := ⟨.mk 0 ⟨#[]⟩ ⟨#[]⟩ 0 none 0 []⟩
    obtain ⟨F, hF⟩ := Deep.choose_lt hE
    have hl : ((List.range len).map F).length = len := by simp
    refine ⟨.mk k r m d (some a) cap ((List.range len).map F), by unfold Ex.cel Ex.k Ex.r Ex.n Ex.d Ex.A Ex.c Ex.sub; simp only [hl], ?_⟩
    rw [Ex.in_mk]
    refine ⟨⟨b0.1, b0.2, b3.1, b3.2, w1, w2, by show ((List.range len).map F).length ≤ cap; rw [hl]; exact hlc, by show ((List.range len).map F).length ≤ _; rw [hl]; exact Nat.le_trans hlc hcm, fun h => by cases h⟩, fun j hj => ?_⟩
    rw [hl] at hj
    have hj' : ((List.range len).map F)[j]'(by rw [hl]; exact hj) = F j := by simp
    rw [hj']
    obtain ⟨⟨cs', q1, rfl⟩, q3⟩ := hF j hj
    refine ⟨?_, q3⟩
    have hc : ∀ i v, (F j).cel[i]? = some v → W.cell? ((a.add (j * 5)).add i) = some v := fun i v hv => by
      obtain ⟨-, hl2, hc2⟩ := World.cells?_some q1
      have hi : i < 5 := by
        rw [← hl2]
        exact (List.getElem?_eq_some_iff.1 hv).1
      rw [hc2 i hi]; exact hv
    have hsp : a.spot = none := by
      obtain ⟨⟨cs0, z1, rfl⟩, -⟩ := hF 0 (by omega)
      obtain ⟨-, -, z2⟩ := World.cells?_some z1
      have := z2 0 (by omega)
      rw [Nat.zero_mul] at this
      exact (spot_none this).1
    obtain ⟨b, o, p⟩ := a
    simp only at hsp
    subst hsp
    have hb := (spot_none (hc 0 _ rfl)).2
    rw [add_off, add_off] at hb
    refine ⟨b, o, rfl, hb, fun i v hv => ?_⟩
    have := hc i v hv
    rw [add_off, add_off] at this
    rw [← this, Nat.add_assoc]
end
end Go.Proofs.YtbfimfjhdbpenaaGreatDoor
/- Layer 8: the statements' guard of expressions: count, bytes, Great. -/
namespace Go.Proofs.YtbfimfjhdbpenaaGreatDoor
open Go Go.RowKit
theorem btO {a b c : World} (h : Below a.heap.size a b) (k : Below b.heap.size b c) : Below a.heap.size a c := h.trans (k.mono h.size)
theorem belO (w : World) (o : Obj) : Below w.heap.size w (w.alloc o) := (Below.refl _ w).alloc (Nat.le_refl _) _
theorem cellO {w w' : World} {p : Addr} {v : Value} (h : Below w.heap.size w w') (hc : w.cell? p = some v) : w'.cell? p = some v := (h.cell (spot_none hc).2).trans hc
def IntRO (n : Int) (w : World) (e : Ending) (w' : World) : Prop := e = .returned (.int .i64 n) ∧ Below w.heap.size w w'
def BoolRO (b : Bool) (w : World) (e : Ending) (w' : World) : Prop := e = .returned (.bool b) ∧ Below w.heap.size w w'
end Go.Proofs.YtbfimfjhdbpenaaGreatDoor

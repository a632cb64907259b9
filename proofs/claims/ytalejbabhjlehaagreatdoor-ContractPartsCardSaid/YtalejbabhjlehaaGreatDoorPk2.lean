/- Joined: ObB, CnB, ObD, CnK. -/
import Derived.Test.YtalejbabhjlehaaGreatDoorPk1
import Derived.Below
import Derived.Deep.Slices
import Derived.Lib.SmallJoins
import Derived.ChangeSlices
import Derived.WideShapes
import Derived.Carry
import Derived.ProofKit
import Derived.OpenShut
import Derived.SizedLaws
/- Layer 8: expressions in memory, and among the arguments. -/
namespace Go.Proofs.YtalejbabhjlehaaGreatDoor
open Go Go.RowKit Go.ChangeShapes Go.WideShapes
def RowC (w : World) (A : Option Addr) (k i : Nat) (cs : List Value) : Prop :=
  ∃ b o, A = some ⟨b, o, none⟩ ∧ b < w.heap.size ∧ ∀ j v, cs[j]? = some v → w.cell? ⟨b, o + (i * k + j), none⟩ = some v
theorem RowC.below {w w' : World} {A : Option Addr} {k i : Nat} {cs : List Value} (h : RowC w A k i cs) (hb : Below w.heap.size w w') : RowC w' A k i cs := by
  obtain ⟨b, o, h1, h2, h3⟩ := h
  exact ⟨b, o, h1, Nat.lt_of_lt_of_le h2 hb.size, fun j v hv => (hb.cell h2).trans (h3 j v hv)⟩
structure Ex.Bd (t : Ex) : Prop where
  k0 : 0 ≤ t.k
  k1 : t.k ≤ 255
  d0 : -9223372036854775808 ≤ t.d
  d1 : t.d ≤ 9223372036854775807
  r1 : t.r.size ≤ 140737488351232
  n1 : t.n.size ≤ 140737488351232
  l1 : t.sub.length ≤ t.c
  c1 : t.sub.length ≤ 140737488351232
  nn : t.A = none → t.c = 0
mutual
def Ex.In (w : World) : Ex → Prop
  | .mk k r n d A c s => Ex.Bd (.mk k r n d A c s) ∧ Ex.Ins w A 0 s
def Ex.Ins (w : World) (A : Option Addr) : Nat → List Ex → Prop
  | _, [] => True
  | i, t :: l => RowC w A 5 i t.cel ∧ Ex.In w t ∧ Ex.Ins w A (i + 1) l
end
theorem Ex.ins_iff (w : World) (A : Option Addr) (l : List Ex) : ∀ i, Ex.Ins w A i l ↔ ∀ j (h : j < l.length), RowC w A 5 (i + j) l[j].cel ∧ Ex.In w l[j] := by
  induction l with
  | nil => intro i; simp [Ex.Ins]
  | cons t l ih =>
    intro i
    rw [Ex.Ins, ih]
    constructor
    · rintro ⟨h1, h2, h3⟩ j hj
      cases j with
      | zero => exact ⟨h1, h2⟩
      | succ j =>
        have := h3 j (by simpa using hj)
        rw [show i + (j + 1) = i + 1 + j by omega]
        exact this
    · intro h
      refine ⟨(h 0 (by simp)).1, (h 0 (by simp)).2, fun j hj => ?_⟩
      have := h (j + 1) (by simpa using hj)
      rw [show i + 1 + j = i + (j + 1) by omega]
      exact this
theorem Ex.in_mk (w : World) (k : Int) (r n : ByteArray) (d : Int) (A : Option Addr) (c : Nat) (s : List Ex) :
    Ex.In w (.mk k r n d A c s) ↔ Ex.Bd (.mk k r n d A c s) ∧ ∀ j (h : j < s.length), RowC w A 5 j s[j].cel ∧ Ex.In w s[j] := by
  rw [Ex.In, Ex.ins_iff]
  simp only [Nat.zero_add]
theorem Ex.In.bd {w : World} {t : Ex} (h : t.In w) : t.Bd := by
  obtain ⟨k, r, n, d, A, c, s⟩ := t
  exact ((Ex.in_mk ..).1 h).1
theorem Ex.In.get {w : World} {t : Ex} (h : t.In w) {j : Nat} (hj : j < t.sub.length) : RowC w t.A 5 j t.sub[j].cel ∧ Ex.In w t.sub[j] := by
  obtain ⟨k, r, n, d, A, c, s⟩ := t
  exact ((Ex.in_mk ..).1 h).2 j hj
theorem Ex.In.below {w w' : World} {t : Ex} (h : t.In w) (hb : Below w.heap.size w w') : t.In w' := by
  induction t using Ex.ind with
  | h k r n d A c s ih =>
    rw [Ex.in_mk] at h ⊢
    exact ⟨h.1, fun j hj => ⟨(h.2 j hj).1.below hb, ih _ (List.getElem_mem hj) (h.2 j hj).2⟩⟩
theorem spot_none {w : World} {a : Addr} {v : Value} (h : w.cell? a = some v) : a.spot = none ∧ a.block < w.heap.size := by
  constructor
  · unfold World.cell? at h
    split at h
    · split at h
      · cases h
      · next g => simpa using g
    · cases h
  · unfold World.cell? at h
    split at h
    · next g => exact lt_of_block g
    · cases h
theorem add_off (b o i : Nat) : (⟨b, o, none⟩ : Addr).add i = ⟨b, o + i, none⟩ := by
  unfold Addr.add
  split
  · next g => rw [g]; rfl
  · rfl
theorem size_lenO (s : ByteArray) : s.size = s.data.toList.length := Array.length_toList.symm
theorem w_strO {H : Type} {P : Program} {t : TypeId} (s : ByteArray) : s.data.toList.length ∈ DataW.weights (H := H) P t (.lit (.string s.data.toList)) := by
  rw [DataW.weights]; exact List.mem_singleton.2 rfl
theorem weightsAll_mem {H : Type} {P : Program} {e : TypeId} {d : DataW H} {n : Nat} (hn : n ∈ d.weights P e) : ∀ (l : List (DataW H)), d ∈ l → n ∈ DataW.weightsAll P e l
  | [], h => by simp at h
  | x :: r, h => by
    rw [DataW.weightsAll, List.mem_append]
    rcases List.mem_cons.1 h with rfl | h
    · exact .inl hn
    · exact .inr (weightsAll_mem hn r h)
section
variable {H : Type} {enc : TypeId × Value → H} {W : World}
set_option maxRecDepth 100000 in
theorem open_exF (fuel : Nat) : ∀ (cs : List Value) (x : DataW H × List MemPlace), DataW.trod enc Tryz.prog W 0 (fun _ => true) true fuel 29 cs = some x → (∀ n ∈ DataW.weights Tryz.prog 29 x.1, n ≤ reachBytes) → ∃ T : Ex, cs = T.cel ∧ T.In W := by
  induction fuel using Nat.strongRecOn with
  | _ fuel ih =>
  intro cs x hf hwt
  obtain ⟨xs, n, hn, hx, hcl, hlen, hg⟩ := DataW.trod_struct Tryz.underlying29 hf
  have k1 : Tryz.prog.cellsOf 3 = 1 := by kernel_rfl
  have k2 : Tryz.prog.cellsOf 5 = 1 := by kernel_rfl
  have k3 : Tryz.prog.cellsOf 26 = 1 := by kernel_rfl
  have k4 : Tryz.prog.cellsOf 9 = 1 := by kernel_rfl
  have k5 : Tryz.prog.cellsOf 27 = 1 := by kernel_rfl
  have k6 : Tryz.prog.cellsOf 29 = 5 := by kernel_rfl
  rw [k6] at hcl
  obtain ⟨c0, c1, c2, c3, c4, rfl⟩ : ∃ c0 c1 c2 c3 c4, cs = [c0, c1, c2, c3, c4] := by
    match cs, hcl with
    | [c0, c1, c2, c3, c4], _ => exact ⟨c0, c1, c2, c3, c4, rfl⟩
  obtain ⟨y0, y1, y2, y3, y4, rfl⟩ : ∃ y0 y1 y2 y3 y4, xs = [y0, y1, y2, y3, y4] := by
    match xs, hlen with
    | [y0, y1, y2, y3, y4], _ => exact ⟨y0, y1, y2, y3, y4, rfl⟩
  have g0 : DataW.trod enc Tryz.prog W 0 (fun _ => true) true n 5 [c0] = some y0 := by simpa [k1, k2, k3, k4, k5] using hg 0 _ rfl
  have g1 : DataW.trod enc Tryz.prog W 0 (fun _ => true) true n 26 [c1] = some y1 := by simpa [k1, k2, k3, k4, k5] using hg 1 _ rfl
  have g2 : DataW.trod enc Tryz.prog W 0 (fun _ => true) true n 9 [c2] = some y2 := by simpa [k1, k2, k3, k4, k5] using hg 2 _ rfl
  have g3 : DataW.trod enc Tryz.prog W 0 (fun _ => true) true n 3 [c3] = some y3 := by simpa [k1, k2, k3, k4, k5] using hg 3 _ rfl
  have g4 : DataW.trod enc Tryz.prog W 0 (fun _ => true) true n 27 [c4] = some y4 := by simpa [k1, k2, k3, k4, k5] using hg 4 _ rfl
  clear hg hf
  have hwe : ∀ (j : Nat) (t : TypeId) (d : DataW H), ([5, 26, 9, 3, 27] : List TypeId)[j]? = some t → ([y0.1, y1.1, y2.1, y3.1, y4.1] : List (DataW H))[j]? = some d → ∀ n ∈ d.weights Tryz.prog t, n ≤ reachBytes := by
    intro j t d ht hd n hn
    refine hwt n ?_
    rw [hx]
    show n ∈ DataW.weights Tryz.prog 29 (.agg [y0.1, y1.1, y2.1, y3.1, y4.1])
    rw [DataW.weights, Tryz.underlying29]
    exact DataW.weights_mem_each ht hd n hn
  clear hwt
  obtain ⟨k, h0, -, w0⟩ := DataW.trod_int Tryz.underlying5 g0
  obtain rfl : c0 = .int .u8 k := by simpa using h0
  obtain ⟨r, h1, x1, w1⟩ := DataW.trod_string Tryz.underlying26 g1
  obtain rfl : c1 = .string r := by simpa using h1
  obtain ⟨m, h2, x2, w2⟩ := DataW.trod_string Tryz.underlying9 g2
  obtain rfl : c2 = .string m := by simpa using h2
  obtain ⟨d, h3, -, w3⟩ := DataW.trod_int Tryz.underlying3 g3
  obtain rfl : c3 = .int .i64 d := by simpa using h3
  have w1 : r.size ≤ 140737488351232 := by
    have := hwe 1 _ _ rfl rfl r.data.toList.length (by rw [x1]; exact w_strO r)
    exact Nat.le_trans (Nat.le_of_eq (size_lenO r)) (Nat.le_trans this (by decide))
  have w2 : m.size ≤ 140737488351232 := by
    have := hwe 2 _ _ rfl rfl m.data.toList.length (by rw [x2]; exact w_strO m)
    exact Nat.le_trans (Nat.le_of_eq (size_lenO m)) (Nat.le_trans this (by decide))
  have b0 := bounds_u8 w0
  have b3 := bounds_i64 w3
  rcases DataW.trod_slice Tryz.underlying27 g4 with ⟨h4, -⟩ | ⟨a, len, cap, elems, rest, n2, hn2, h4, x4, -, hlc, -, hel, hget, hsp, -⟩
  · obtain rfl : c4 = .slice none 0 0 := by simpa using h4
    refine ⟨.mk k r m d none 0 [], rfl, ?_⟩
    rw [Ex.in_mk]
    exact ⟨⟨b0.1, b0.2, b3.1, b3.2, w1, w2, Nat.le_refl _, Nat.zero_le _, fun _ => rfl⟩, fun j hj => by simp at hj⟩
  · obtain rfl : c4 = .slice (some a) len cap := by simpa using h4
    rw [k6] at hget
    have hwy : ∀ n ∈ DataW.weights Tryz.prog 27 y4.1, n ≤ reachBytes := hwe 4 _ _ rfl rfl
    rw [x4, DataW.weights, Tryz.underlying27] at hwy
    have hby : Tryz.prog.bytesOf 29 = 72 := by kernel_rfl
    have hcm : cap ≤ 140737488351232 := by
      have h1 := hwy _ (List.mem_cons_self ..)
      rw [List.length_map, List.length_map, hel, (hsp rfl).1, hby] at h1
      have h2 : reachBytes = 140737488351232 := rfl
      omega
    have hE : ∀ i, i < len → ∃ T : Ex, (∃ cs, W.cells? 0 (a.add (i * 5)) 5 = some cs ∧ cs = T.cel) ∧ T.In W := by
      intro i hi
      have := hget i hi
      rw [List.getElem?_eq_getElem (by omega)] at this
      obtain ⟨cs', q1, q2⟩ := Option.bind_eq_some_iff.1 this
      obtain ⟨T, e, hT⟩ := ih n2 (by omega) cs' _ q2 (fun n hn => hwy n (by
        refine List.mem_cons_of_mem _ (List.mem_append_left _ (weightsAll_mem hn _ ?_))
        exact List.mem_map_of_mem (List.getElem_mem _)))
      exact ⟨T, ⟨cs', q1, e⟩, hT⟩
    haveI : Inhabited Ex := ⟨.mk 0 ⟨#[]⟩ ⟨#[]⟩ 0 none 0 []⟩
    obtain ⟨F, hF⟩ := Deep.choose_lt hE
    have hl : ((List.range len).map F).length = len := by simp
    refine ⟨.mk k r m d (some a) cap ((List.range len).map F), by unfold Ex.cel Ex.k Ex.r Ex.n Ex.d Ex.A Ex.c Ex.sub; simp only [hl], ?_⟩
    rw [Ex.in_mk]
    refine ⟨⟨b0.1, b0.2, b3.1, b3.2, w1, w2, by show ((List.range len).map F).length ≤ cap; rw [hl]; exact hlc, by show ((List.range len).map F).length ≤ _; rw [hl]; exact Nat.le_trans hlc hcm, fun h => by cases h⟩, fun j hj => ?_⟩
    rw [hl] at hj
    have hj' : ((List.range len).map F)[j]'(by rw [hl]; exact hj) = F j := by simp
    rw [hj']
    obtain ⟨⟨cs', q1, rfl⟩, q3⟩ := hF j hj
    refine ⟨?_, q3⟩
    have hc : ∀ i v, (F j).cel[i]? = some v → W.cell? ((a.add (j * 5)).add i) = some v := fun i v hv => by
      obtain ⟨-, hl2, hc2⟩ := World.cells?_some q1
      have hi : i < 5 := by
        rw [← hl2]
        exact (List.getElem?_eq_some_iff.1 hv).1
      rw [hc2 i hi]; exact hv
    have hsp : a.spot = none := by
      obtain ⟨⟨cs0, z1, rfl⟩, -⟩ := hF 0 (by omega)
      obtain ⟨-, -, z2⟩ := World.cells?_some z1
      have := z2 0 (by omega)
      rw [Nat.zero_mul] at this
      exact (spot_none this).1
    obtain ⟨b, o, p⟩ := a
    simp only at hsp
    subst hsp
    have hb := (spot_none (hc 0 _ rfl)).2
    rw [add_off, add_off] at hb
    refine ⟨b, o, rfl, hb, fun i v hv => ?_⟩
    have := hc i v hv
    rw [add_off, add_off] at this
    rw [← this, Nat.add_assoc]
end
end Go.Proofs.YtalejbabhjlehaaGreatDoor
/- Layer 9: contracts in memory, and among the arguments. -/
namespace Go.Proofs.YtalejbabhjlehaaGreatDoor
open Go Go.RowKit Go.ChangeShapes Go.WideShapes
def IntsIn (w : World) (A : Option Addr) (l : List Int) : Prop := ∀ j (h : j < l.length), RowC w A 1 j [.int .i64 l[j]]
theorem IntsIn.below {w w' : World} {A : Option Addr} {l : List Int} (h : IntsIn w A l) (hb : Below w.heap.size w w') : IntsIn w' A l := fun j hj => (h j hj).below hb
structure Ct.Bd (T : Ct) : Prop where
  k0 : 0 ≤ T.k
  k1 : T.k ≤ 255
  d0 : -9223372036854775808 ≤ T.d
  d1 : T.d ≤ 9223372036854775807
  f1 : T.f.size ≤ 140737488351232
  t1 : T.t.size ≤ 140737488351232
  n1 : T.n.size ≤ 140737488351232
  a1 : T.dl.length ≤ T.dc
  a2 : T.dl.length ≤ 140737488351232
  an : T.DA = none → T.dc = 0
  av : ∀ v ∈ T.dl, -9223372036854775808 ≤ v ∧ v ≤ 9223372036854775807
  l1 : T.sub.length ≤ T.c
  c1 : T.sub.length ≤ 140737488351232
  nn : T.A = none → T.c = 0
mutual
def Ct.In (w : World) : Ct → Prop
  | .mk k f t n x d DA dl dc A c s => Ct.Bd (.mk k f t n x d DA dl dc A c s) ∧ x.In w ∧ IntsIn w DA dl ∧ Ct.Ins w A 0 s
def Ct.Ins (w : World) (A : Option Addr) : Nat → List Ct → Prop
  | _, [] => True
  | i, t :: l => RowC w A 12 i t.cel ∧ Ct.In w t ∧ Ct.Ins w A (i + 1) l
end
theorem Ct.ins_iff (w : World) (A : Option Addr) (l : List Ct) : ∀ i, Ct.Ins w A i l ↔ ∀ j (h : j < l.length), RowC w A 12 (i + j) l[j].cel ∧ Ct.In w l[j] := by
  induction l with
  | nil => intro i; simp [Ct.Ins]
  | cons t l ih =>
    intro i
    rw [Ct.Ins, ih]
    constructor
    · rintro ⟨h1, h2, h3⟩ j hj
      cases j with
      | zero => exact ⟨h1, h2⟩
      | succ j =>
        have := h3 j (by simpa using hj)
        rw [show i + (j + 1) = i + 1 + j by omega]
        exact this
    · intro h
      refine ⟨(h 0 (by simp)).1, (h 0 (by simp)).2, fun j hj => ?_⟩
      have := h (j + 1) (by simpa using hj)
      rw [show i + 1 + j = i + (j + 1) by omega]
      exact this
theorem Ct.in_mk (w : World) (k : Int) (f t n : ByteArray) (x : Ex) (d : Int) (DA : Option Addr) (dl : List Int) (dc : Nat) (A : Option Addr) (c : Nat) (s : List Ct) :
    Ct.In w (.mk k f t n x d DA dl dc A c s) ↔ Ct.Bd (.mk k f t n x d DA dl dc A c s) ∧ x.In w ∧ IntsIn w DA dl ∧ ∀ j (h : j < s.length), RowC w A 12 j s[j].cel ∧ Ct.In w s[j] := by
  rw [Ct.In, Ct.ins_iff]
  simp only [Nat.zero_add]
theorem Ct.In.bd {w : World} {T : Ct} (h : T.In w) : T.Bd := by
  obtain ⟨k, f, t, n, x, d, DA, dl, dc, A, c, s⟩ := T
  exact ((Ct.in_mk ..).1 h).1
theorem Ct.In.ex {w : World} {T : Ct} (h : T.In w) : T.x.In w := by
  obtain ⟨k, f, t, n, x, d, DA, dl, dc, A, c, s⟩ := T
  exact ((Ct.in_mk ..).1 h).2.1
theorem Ct.In.days {w : World} {T : Ct} (h : T.In w) : IntsIn w T.DA T.dl := by
  obtain ⟨k, f, t, n, x, d, DA, dl, dc, A, c, s⟩ := T
  exact ((Ct.in_mk ..).1 h).2.2.1
theorem Ct.In.get {w : World} {T : Ct} (h : T.In w) {j : Nat} (hj : j < T.sub.length) : RowC w T.A 12 j T.sub[j].cel ∧ Ct.In w T.sub[j] := by
  obtain ⟨k, f, t, n, x, d, DA, dl, dc, A, c, s⟩ := T
  exact ((Ct.in_mk ..).1 h).2.2.2 j hj
theorem Ct.In.below {w w' : World} {T : Ct} (h : T.In w) (hb : Below w.heap.size w w') : T.In w' := by
  induction T using Ct.ind with
  | h k f t n x d DA dl dc A c s ih =>
    rw [Ct.in_mk] at h ⊢
    exact ⟨h.1, h.2.1.below hb, h.2.2.1.below hb, fun j hj => ⟨(h.2.2.2 j hj).1.below hb, ih _ (List.getElem_mem hj) (h.2.2.2 j hj).2⟩⟩
section
variable {H : Type} {enc : TypeId × Value → H} {W : World}
set_option maxRecDepth 100000 in
theorem open_intsF (n : Nat) (c6 : Value) (y6 : DataW H × List MemPlace) (g6 : DataW.trod enc Tryz.prog W 0 (fun _ => true) true n 30 [c6] = some y6) (hwy : ∀ n ∈ DataW.weights Tryz.prog 30 y6.1, n ≤ reachBytes) :
    ∃ (A : Option Addr) (l : List Int) (c : Nat), c6 = .slice A l.length c ∧ IntsIn W A l ∧ l.length ≤ c ∧ l.length ≤ 140737488351232 ∧ (A = none → c = 0) ∧ ∀ v ∈ l, -9223372036854775808 ≤ v ∧ v ≤ 9223372036854775807 := by
  have k1 : Tryz.prog.cellsOf 3 = 1 := by kernel_rfl
  rcases DataW.trod_slice Tryz.underlying30 g6 with ⟨h4, -⟩ | ⟨a, len, cap, elems, rest, n2, hn2, h4, x4, -, hlc, -, hel, hget, hsp, -⟩
  · obtain rfl : c6 = .slice none 0 0 := by simpa using h4
    exact ⟨none, [], 0, rfl, fun j hj => by simp at hj, Nat.le_refl _, Nat.zero_le _, fun _ => rfl, fun v hv => by simp at hv⟩
  · obtain rfl : c6 = .slice (some a) len cap := by simpa using h4
    rw [k1] at hget
    rw [x4, DataW.weights, Tryz.underlying30] at hwy
    have hby : Tryz.prog.bytesOf 3 = 8 := by kernel_rfl
    have hcm : cap ≤ 140737488351232 := by
      have h1 := hwy _ (List.mem_cons_self ..)
      rw [List.length_map, List.length_map, hel, (hsp rfl).1, hby] at h1
      have h2 : reachBytes = 140737488351232 := rfl
      omega
    have hE : ∀ i, i < len → ∃ v : Int, (W.cells? 0 (a.add (i * 1)) 1 = some [.int .i64 v]) ∧ -9223372036854775808 ≤ v ∧ v ≤ 9223372036854775807 := by
      intro i hi
      have := hget i hi
      rw [List.getElem?_eq_getElem (by omega)] at this
      obtain ⟨cs', q1, q2⟩ := Option.bind_eq_some_iff.1 this
      obtain ⟨-, hl2, -⟩ := World.cells?_some q1
      obtain ⟨c', rfl⟩ : ∃ c', cs' = [c'] := by
        match cs', hl2 with
        | [c'], _ => exact ⟨c', rfl⟩
      obtain ⟨v, h0, -, w0⟩ := DataW.trod_int Tryz.underlying3 q2
      obtain rfl : c' = .int .i64 v := by simpa using h0
      exact ⟨v, q1, bounds_i64 w0⟩
    obtain ⟨F, hF⟩ := Deep.choose_lt hE
    have hl : ((List.range len).map F).length = len := by simp
    refine ⟨some a, (List.range len).map F, cap, by simp only [hl], fun j hj => ?_, by rw [hl]; exact hlc, by rw [hl]; exact Nat.le_trans hlc hcm, (fun h => by cases h), fun v hv => ?_⟩
    · rw [hl] at hj
      have hj' : ((List.range len).map F)[j]'(by rw [hl]; exact hj) = F j := by simp
      rw [hj']
      obtain ⟨q1, -⟩ := hF j hj
      have hc : ∀ i v, ([.int .i64 (F j)] : List Value)[i]? = some v → W.cell? ((a.add (j * 1)).add i) = some v := fun i v hv => by
        obtain ⟨-, hl2, hc2⟩ := World.cells?_some q1
        have hi : i < 1 := (List.getElem?_eq_some_iff.1 hv).1
        rw [hc2 i hi]; exact hv
      have hsp : a.spot = none := by
        obtain ⟨z1, -⟩ := hF 0 (by omega)
        obtain ⟨-, -, z2⟩ := World.cells?_some z1
        have := z2 0 (by omega)
        rw [Nat.zero_mul] at this
        exact (spot_none this).1
      obtain ⟨b, o, p⟩ := a
      simp only at hsp
      subst hsp
      have hb := (spot_none (hc 0 _ rfl)).2
      rw [add_off, add_off] at hb
      refine ⟨b, o, rfl, hb, fun i v hv => ?_⟩
      have := hc i v hv
      rw [add_off, add_off] at this
      rw [← this, Nat.add_assoc]
    · obtain ⟨j, hj, rfl⟩ := List.mem_map.1 hv
      exact (hF j (List.mem_range.1 hj)).2
set_option maxRecDepth 100000 in
set_option maxHeartbeats 1600000 in
theorem open_ctF (fuel : Nat) : ∀ (cs : List Value) (x : DataW H × List MemPlace), DataW.trod enc Tryz.prog W 0 (fun _ => true) true fuel 32 cs = some x → (∀ n ∈ DataW.weights Tryz.prog 32 x.1, n ≤ reachBytes) → ∃ T : Ct, cs = T.cel ∧ T.In W := by
  induction fuel using Nat.strongRecOn with
  | _ fuel ih =>
  intro cs x hf hwt
  obtain ⟨xs, n, hn, hx, hcl, hlen, hg⟩ := DataW.trod_struct Tryz.underlying32 hf
  have k1 : Tryz.prog.cellsOf 3 = 1 := by kernel_rfl
  have k2 : Tryz.prog.cellsOf 5 = 1 := by kernel_rfl
  have k3 : Tryz.prog.cellsOf 29 = 5 := by kernel_rfl
  have k4 : Tryz.prog.cellsOf 9 = 1 := by kernel_rfl
  have k5 : Tryz.prog.cellsOf 22 = 1 := by kernel_rfl
  have k7 : Tryz.prog.cellsOf 30 = 1 := by kernel_rfl
  have k6 : Tryz.prog.cellsOf 32 = 12 := by kernel_rfl
  rw [k6] at hcl
  obtain ⟨c0, c1, c2, c3, c4, c5, c6, c7, c8, c9, c10, c11, rfl⟩ : ∃ c0 c1 c2 c3 c4 c5 c6 c7 c8 c9 c10 c11, cs = [c0, c1, c2, c3, c4, c5, c6, c7, c8, c9, c10, c11] := by
    match cs, hcl with
    | [c0, c1, c2, c3, c4, c5, c6, c7, c8, c9, c10, c11], _ => exact ⟨c0, c1, c2, c3, c4, c5, c6, c7, c8, c9, c10, c11, rfl⟩
  obtain ⟨y0, y1, y2, y3, y4, y5, y6, y7, rfl⟩ : ∃ y0 y1 y2 y3 y4 y5 y6 y7, xs = [y0, y1, y2, y3, y4, y5, y6, y7] := by
    match xs, hlen with
    | [y0, y1, y2, y3, y4, y5, y6, y7], _ => exact ⟨y0, y1, y2, y3, y4, y5, y6, y7, rfl⟩
  have g0 : DataW.trod enc Tryz.prog W 0 (fun _ => true) true n 5 [c0] = some y0 := by simpa [k1, k2, k3, k4, k5, k7] using hg 0 _ rfl
  have g1 : DataW.trod enc Tryz.prog W 0 (fun _ => true) true n 9 [c1] = some y1 := by simpa [k1, k2, k3, k4, k5, k7] using hg 1 _ rfl
  have g2 : DataW.trod enc Tryz.prog W 0 (fun _ => true) true n 9 [c2] = some y2 := by simpa [k1, k2, k3, k4, k5, k7] using hg 2 _ rfl
  have g3 : DataW.trod enc Tryz.prog W 0 (fun _ => true) true n 9 [c3] = some y3 := by simpa [k1, k2, k3, k4, k5, k7] using hg 3 _ rfl
  have g4 : DataW.trod enc Tryz.prog W 0 (fun _ => true) true n 29 [c4, c5, c6, c7, c8] = some y4 := by simpa [k1, k2, k3, k4, k5, k7] using hg 4 _ rfl
  have g5 : DataW.trod enc Tryz.prog W 0 (fun _ => true) true n 3 [c9] = some y5 := by simpa [k1, k2, k3, k4, k5, k7] using hg 5 _ rfl
  have g6 : DataW.trod enc Tryz.prog W 0 (fun _ => true) true n 30 [c10] = some y6 := by simpa [k1, k2, k3, k4, k5, k7] using hg 6 _ rfl
  have g7 : DataW.trod enc Tryz.prog W 0 (fun _ => true) true n 22 [c11] = some y7 := by simpa [k1, k2, k3, k4, k5, k7] using hg 7 _ rfl
  clear hg hf
  have hwe : ∀ (j : Nat) (t : TypeId) (d : DataW H), ([5, 9, 9, 9, 29, 3, 30, 22] : List TypeId)[j]? = some t → ([y0.1, y1.1, y2.1, y3.1, y4.1, y5.1, y6.1, y7.1] : List (DataW H))[j]? = some d → ∀ n ∈ d.weights Tryz.prog t, n ≤ reachBytes := by
    intro j t d ht hd n hn
    refine hwt n ?_
    rw [hx]
    show n ∈ DataW.weights Tryz.prog 32 (.agg [y0.1, y1.1, y2.1, y3.1, y4.1, y5.1, y6.1, y7.1])
    rw [DataW.weights, Tryz.underlying32]
    exact DataW.weights_mem_each ht hd n hn
  clear hwt
  obtain ⟨k, h0, -, w0⟩ := DataW.trod_int Tryz.underlying5 g0
  obtain rfl : c0 = .int .u8 k := by simpa using h0
  obtain ⟨f, h1, x1, w1⟩ := DataW.trod_string Tryz.underlying9 g1
  obtain rfl : c1 = .string f := by simpa using h1
  obtain ⟨t, h2, x2, w2⟩ := DataW.trod_string Tryz.underlying9 g2
  obtain rfl : c2 = .string t := by simpa using h2
  obtain ⟨m, h3, x3, w3⟩ := DataW.trod_string Tryz.underlying9 g3
  obtain rfl : c3 = .string m := by simpa using h3
  obtain ⟨X, eX, hX⟩ := open_exF n _ _ g4 (hwe 4 _ _ rfl rfl)
  obtain ⟨rfl, rfl, rfl, rfl, rfl⟩ : c4 = .int .u8 X.k ∧ c5 = .string X.r ∧ c6 = .string X.n ∧ c7 = .int .i64 X.d ∧ c8 = .slice X.A X.sub.length X.c := by
    unfold Ex.cel at eX
    injection eX with e1 eX
    injection eX with e2 eX
    injection eX with e3 eX
    injection eX with e4 eX
    injection eX with e5 eX
    exact ⟨e1, e2, e3, e4, e5⟩
  obtain ⟨d, h5, -, w5⟩ := DataW.trod_int Tryz.underlying3 g5
  obtain rfl : c9 = .int .i64 d := by simpa using h5
  obtain ⟨DA, dl, dc, rfl, hI, hI1, hI2, hI3, hI4⟩ := open_intsF n c10 y6 g6 (hwe 6 _ _ rfl rfl)
  have w1 : f.size ≤ 140737488351232 := by
    have := hwe 1 _ _ rfl rfl f.data.toList.length (by rw [x1]; exact w_strO f)
    exact Nat.le_trans (Nat.le_of_eq (size_lenO f)) (Nat.le_trans this (by decide))
  have w2 : t.size ≤ 140737488351232 := by
    have := hwe 2 _ _ rfl rfl t.data.toList.length (by rw [x2]; exact w_strO t)
    exact Nat.le_trans (Nat.le_of_eq (size_lenO t)) (Nat.le_trans this (by decide))
  have w3 : m.size ≤ 140737488351232 := by
    have := hwe 3 _ _ rfl rfl m.data.toList.length (by rw [x3]; exact w_strO m)
    exact Nat.le_trans (Nat.le_of_eq (size_lenO m)) (Nat.le_trans this (by decide))
  have b0 := bounds_u8 w0
  have b5 := bounds_i64 w5
  rcases DataW.trod_slice Tryz.underlying22 g7 with ⟨h4, -⟩ | ⟨a, len, cap, elems, rest, n2, hn2, h4, x4, -, hlc, -, hel, hget, hsp, -⟩
  · obtain rfl : c11 = .slice none 0 0 := by simpa using h4
    refine ⟨.mk k f t m X d DA dl dc none 0 [], rfl, ?_⟩
    rw [Ct.in_mk]
    exact ⟨⟨b0.1, b0.2, b5.1, b5.2, w1, w2, w3, hI1, hI2, hI3, hI4, Nat.le_refl _, Nat.zero_le _, fun _ => rfl⟩, hX, hI, fun j hj => by simp at hj⟩
  · obtain rfl : c11 = .slice (some a) len cap := by simpa using h4
    rw [k6] at hget
    have hwy : ∀ n ∈ DataW.weights Tryz.prog 22 y7.1, n ≤ reachBytes := hwe 7 _ _ rfl rfl
    rw [x4, DataW.weights, Tryz.underlying22] at hwy
    have hby : Tryz.prog.bytesOf 32 = 184 := by kernel_rfl
    have hcm : cap ≤ 140737488351232 := by
      have h1 := hwy _ (List.mem_cons_self ..)
      rw [List.length_map, List.length_map, hel, (hsp rfl).1, hby] at h1
      have h2 : reachBytes = 140737488351232 := rfl
      omega
    have hE : ∀ i, i < len → ∃ T : Ct, (∃ cs, W.cells? 0 (a.add (i * 12)) 12 = some cs ∧ cs = T.cel) ∧ T.In W := by
      intro i hi
      have := hget i hi
      rw [List.getElem?_eq_getElem (by omega)] at this
      obtain ⟨cs', q1, q2⟩ := Option.bind_eq_some_iff.1 this
      obtain ⟨T, e, hT⟩ := ih n2 (by omega) cs' _ q2 (fun n hn => hwy n (by
        refine List.mem_cons_of_mem _ (List.mem_append_left _ (weightsAll_mem hn _ ?_))
        exact List.mem_map_of_mem (List.getElem_mem _)))
      exact ⟨T, ⟨cs', q1, e⟩, hT⟩
    haveI : Inhabited Ct := ⟨.mk 0 ⟨#[]⟩ ⟨#[]⟩ ⟨#[]⟩ X 0 none [] 0 none 0 []⟩
    obtain ⟨F, hF⟩ := Deep.choose_lt hE
    have hl : ((List.range len).map F).length = len := by simp
    refine ⟨.mk k f t m X d DA dl dc (some a) cap ((List.range len).map F), by unfold Ct.cel Ct.k Ct.f Ct.t Ct.n Ct.x Ct.d Ct.DA Ct.dl Ct.dc Ct.A Ct.c Ct.sub; simp only [hl], ?_⟩
    rw [Ct.in_mk]
    refine ⟨⟨b0.1, b0.2, b5.1, b5.2, w1, w2, w3, hI1, hI2, hI3, hI4, by show ((List.range len).map F).length ≤ cap; rw [hl]; exact hlc, by show ((List.range len).map F).length ≤ _; rw [hl]; exact Nat.le_trans hlc hcm, fun h => by cases h⟩, hX, hI, fun j hj => ?_⟩
    rw [hl] at hj
    have hj' : ((List.range len).map F)[j]'(by rw [hl]; exact hj) = F j := by simp
    rw [hj']
    obtain ⟨⟨cs', q1, rfl⟩, q3⟩ := hF j hj
    refine ⟨?_, q3⟩
    have hc : ∀ i v, (F j).cel[i]? = some v → W.cell? ((a.add (j * 12)).add i) = some v := fun i v hv => by
      obtain ⟨-, hl2, hc2⟩ := World.cells?_some q1
      have hi : i < 12 := by
        rw [← hl2]
        exact (List.getElem?_eq_some_iff.1 hv).1
      rw [hc2 i hi]; exact hv
    have hsp : a.spot = none := by
      obtain ⟨⟨cs0, z1, rfl⟩, -⟩ := hF 0 (by omega)
      obtain ⟨-, -, z2⟩ := World.cells?_some z1
      have := z2 0 (by omega)
      rw [Nat.zero_mul] at this
      exact (spot_none this).1
    obtain ⟨b, o, p⟩ := a
    simp only at hsp
    subst hsp
    have hb := (spot_none (hc 0 _ rfl)).2
    rw [add_off, add_off] at hb
    refine ⟨b, o, rfl, hb, fun i v hv => ?_⟩
    have := hc i v hv
    rw [add_off, add_off] at this
    rw [← this, Nat.add_assoc]
end
end Go.Proofs.YtalejbabhjlehaaGreatDoor
/- Layer 8: the statements' guard of expressions: count, bytes, Great. -/
namespace Go.Proofs.YtalejbabhjlehaaGreatDoor
open Go Go.RowKit
theorem btO {a b c : World} (h : Below a.heap.size a b) (k : Below b.heap.size b c) : Below a.heap.size a c := h.trans (k.mono h.size)
theorem belO (w : World) (o : Obj) : Below w.heap.size w (w.alloc o) := (Below.refl _ w).alloc (Nat.le_refl _) _
theorem cellO {w w' : World} {p : Addr} {v : Value} (h : Below w.heap.size w w') (hc : w.cell? p = some v) : w'.cell? p = some v := (h.cell (spot_none hc).2).trans hc
structure Ex.Box (w : World) (b : Nat) (t : Ex) : Prop where
  c0 : w.cell? ⟨b, 0, none⟩ = some (.int .u8 t.k)
  c1 : w.cell? ⟨b, 1, none⟩ = some (.string t.r)
  c2 : w.cell? ⟨b, 2, none⟩ = some (.string t.n)
  c3 : w.cell? ⟨b, 3, none⟩ = some (.int .i64 t.d)
  c4 : w.cell? ⟨b, 4, none⟩ = some (.slice t.A t.sub.length t.c)
theorem Ex.Box.below {w w' : World} {b : Nat} {t : Ex} (h : Ex.Box w b t) (hb : Below w.heap.size w w') : Ex.Box w' b t := ⟨cellO hb h.c0, cellO hb h.c1, cellO hb h.c2, cellO hb h.c3, cellO hb h.c4⟩
theorem Ex.Box.new (w : World) (t : Ex) (ty : TypeId) : Ex.Box (w.alloc (.cells #[.int .u8 t.k, .string t.r, .string t.n, .int .i64 t.d, .slice t.A t.sub.length t.c] ty)) w.heap.size t := by
  refine ⟨?_, ?_, ?_, ?_, ?_⟩
  all_goals (rw [World.cell?_alloc_at _ _ _ _ rfl]; rfl)
theorem Ex.In.part {w : World} {k : Int} {r n : ByteArray} {d : Int} {A : Option Addr} {c : Nat} {s : List Ex} (h : Ex.In w (.mk k r n d A c s)) {j : Nat} (hj : j < s.length) : ∃ b o, A = some ⟨b, o, none⟩ ∧ b < w.heap.size ∧ Ex.In w s[j] ∧
    w.cell? ⟨b, o + j * 5, none⟩ = some (.int .u8 s[j].k) ∧ w.cell? ⟨b, o + j * 5 + 1, none⟩ = some (.string s[j].r) ∧ w.cell? ⟨b, o + j * 5 + 2, none⟩ = some (.string s[j].n) ∧ w.cell? ⟨b, o + j * 5 + 3, none⟩ = some (.int .i64 s[j].d) ∧ w.cell? ⟨b, o + j * 5 + 4, none⟩ = some (.slice s[j].A s[j].sub.length s[j].c) := by
  obtain ⟨⟨b, o, h1, h2, h3⟩, h4⟩ := h.get (j := j) hj
  refine ⟨b, o, h1, h2, h4, ?_, ?_, ?_, ?_, ?_⟩
  · exact h3 0 _ rfl
  · exact h3 1 _ rfl
  · exact h3 2 _ rfl
  · exact h3 3 _ rfl
  · exact h3 4 _ rfl
def CntR (n : Int) (b : Bool) (w : World) (e : Ending) (w' : World) : Prop := e = .returned (.tuple #[.int .i64 n, .bool b]) ∧ Below w.heap.size w w'
set_option maxRecDepth 100000 in
set_option maxHeartbeats 3200000 in
theorem count_any (T : Ex) : ∀ (L : Int) (D : Nat) (w : World), T.In w → 0 ≤ L → L ≤ 1000 → D ≤ 1000 →
    Calls Tryz.prog 67 #[T.val, .int .i64 L, .int .i64 D] w (CntR (T.cnt L D).1 (T.cnt L D).2 w) := by
  induction T using Ex.ind with
  | h kk rr nn dd A c s ih =>
  intro L D w hin hL0 hL1 hD
  have HB := Lib.hid (belO w)
  have hbd := hin.bd
  obtain ⟨-, -, -, -, -, -, hl1, hc1, -⟩ := hbd
  have hl : s.length ≤ 140737488351232 := hc1
  rcases Nat.eq_zero_or_pos D with rfl | hD0
  · show Calls Tryz.prog 67 #[.agg #[.int .u8 kk, .string rr, .string nn, .int .i64 dd, .slice A s.length c], .int .i64 L, .int .i64 (0 : Nat)] w _
    rw [Ex.cnt_mk, if_pos rfl]
    clear hin hl1 hc1 ih
    go_enter Tryz.func67, Tryz.ntmps67
    go_wp2_with (fail)
    go_ret2
    exact ⟨rfl, HB.out _⟩
  · show Calls Tryz.prog 67 #[.agg #[.int .u8 kk, .string rr, .string nn, .int .i64 dd, .slice A s.length c], .int .i64 L, .int .i64 D] w _
    rw [Ex.cnt_mk, if_neg (by omega)]
    have HB1 := Lib.hid (HB.out (.cells #[.int .u8 kk, .string rr, .string nn, .int .i64 dd, .slice A s.length c] 29))
    have HI := Lib.hid (hin.below HB1.out)
    have HC : Hid (Ex.Box (w.alloc (.cells #[.int .u8 kk, .string rr, .string nn, .int .i64 dd, .slice A s.length c] 29)) w.heap.size (.mk kk rr nn dd A c s)) := Ex.Box.new w (.mk kk rr nn dd A c s) 29
    have IH := Lib.hid ih
    obtain ⟨Dz, rfl⟩ : ∃ Dz, D = Dz + 1 := ⟨D - 1, by omega⟩
    simp only [Nat.add_sub_cancel]
    rw [show ((Dz + 1 : Nat) : Int) = (Dz : Int) + 1 from rfl]
    obtain ⟨R1, hR1⟩ : ∃ x, (Ex.cnts s L Dz 1).1 = x := ⟨_, rfl⟩
    obtain ⟨R2, hR2⟩ : ∃ x, (Ex.cnts s L Dz 1).2 = x := ⟨_, rfl⟩
    have HR0 : Hid (Ex.cnts s L Dz 1 = (R1, R2)) := by show _ = _; rw [← hR1, ← hR2]
    rw [hR1, hR2]
    have hz : ((Dz : Int) + 1 == 0) = false := by rw [beq_eq_false_iff_ne]; omega
    clear hin ih hl1 hc1 hR1 hR2 HB
    go_enter Tryz.func67, Tryz.ntmps67
    go_wp2_with (fail)
    have hl63 : s.length ≤ 9223372036854775807 := by omega
    clear hl
    generalize w.alloc (.cells #[.int .u8 kk, .string rr, .string nn, .int .i64 dd, .slice A s.length c] 29) = w1 at *
    go_loopw [8, 9] (fun v i wr => ∃ (n : Int) (k : Nat), k ≤ s.length ∧ v = .int .i64 n ∧ i = .int .i64 k ∧ 1 ≤ n ∧ n ≤ L + 1 ∧ Hid (Ex.cnts (s.drop k) L Dz n = (R1, R2)) ∧ Hid (Below w1.heap.size w1 wr)) (fun _ i _ => s.length - (intOf i).toNat)
    case atStart => exact ⟨1, 0, by omega, rfl, rfl, by omega, by omega, by rw [List.drop_zero]; exact HR0, Below.refl _ _⟩
    case round =>
      obtain ⟨n, k, hk, rfl, rfl, hn1, hn2, HR, HW⟩ := hrel
      have b4 : wr.cell? ⟨w.heap.size, 4, none⟩ = some (.slice A s.length c) := (HC.out.below HW.out).c4
      by_cases hlt : k < s.length
      · by_cases hnL : n ≤ L
        · have HIW := Lib.hid (HI.out.below HW.out)
          obtain ⟨b, o, rfl, -, hpi, d0, d1, d2, d3, d4⟩ := HIW.out.part hlt
          have HP := Lib.hid (show Ex.In wr s[k] from hpi)
          have hm : s[k] ∈ s := List.getElem_mem hlt
          have HJ := Lib.hid (IH.out s[k] hm)
          have hdr : s.drop k = s[k] :: s.drop (k + 1) := List.drop_eq_getElem_cons hlt
          rw [hdr] at HR
          generalize s[k] = t at *
          clear hdr hpi hm HI IH
          obtain ⟨m1, m2, -⟩ := Ex.cnt_facts t (L - n) Dz (by omega)
          have HRR := Lib.hid (HR.out.symm.trans (Ex.cnts_cons t _ L Dz n))
          clear HR
          obtain ⟨m, hm⟩ : ∃ m, (t.cnt (L - n) Dz).1 = m := ⟨_, rfl⟩
          have HQ := Lib.hid (HJ.out (L - n) Dz _ HP.out (by omega) (by omega) (by omega))
          cases hb2 : (t.cnt (L - n) Dz).2
          all_goals
            rw [hm, hb2] at HQ
            rw [hm] at m1 m2
            rw [if_pos hnL, hb2, hm] at HRR
            clear HJ hm hb2
          · have hRR : (R1, R2) = (n, false) := HRR.out
            injection hRR with e1 e2
            subst e1 e2
            clear HRR
            go_wp2_with (go_at_call 67; ((with_reducible refine HQ.out.mono ?_); rintro x w2 ⟨rfl, hb⟩; have HW2 := Lib.hid (btO HW.out hb); clear hb))
            go_ret2
            exact ⟨rfl, btO HB1.out HW2.out⟩
          · have HR2 : Hid (Ex.cnts (List.drop (k + 1) s) L Dz (n + m) = (R1, R2)) := HRR.out.symm
            clear HRR
            go_wp2_with (go_at_call 67; ((with_reducible refine HQ.out.mono ?_); rintro x w2 ⟨rfl, hb⟩; have HW2 := Lib.hid (btO HW.out hb); clear hb))
            go_roundw
            case rel => exact ⟨n + m, k + 1, by omega, by go_num, by go_num, by omega, by omega, HR2, HW2⟩
            case measure => simp [intOf]; omega
        · have hRR := HR.out.symm.trans (Ex.cnts_past _ _ _ _ (by omega))
          injection hRR with e1 e2
          subst e1 e2
          clear HR
          go_wp2_with (fail)
          go_ret2
          exact ⟨rfl, btO HB1.out HW.out⟩
      · obtain rfl : k = s.length := by omega
        have hRR : (R1, R2) = (n, true) := by have := HR.out; rw [List.drop_length, Ex.cnts_nil] at this; exact this.symm
        injection hRR with e1 e2
        subst e1 e2
        clear HR HR0
        go_wp2_with (fail)
        go_ret2
        exact ⟨rfl, btO HB1.out HW.out⟩
theorem sum_le_mul {α : Type} (f g : α → Nat) (C : Nat) (l : List α) (h : ∀ a ∈ l, f a ≤ g a * C) : (l.map f).sum ≤ (l.map g).sum * C := by
  induction l with
  | nil => simp
  | cons a l ih =>
    have h1 := h a (List.mem_cons_self ..)
    have h2 := ih (fun b hb => h b (List.mem_cons_of_mem _ hb))
    rw [List.map_cons, List.map_cons, List.sum_cons, List.sum_cons, Nat.add_mul]
    omega
theorem Ex.In.byt_le {w : World} {T : Ex} (h : T.In w) : T.byt ≤ T.siz * 281474976702464 := by
  induction T using Ex.ind with
  | h k r n d A c s ih =>
    rw [Ex.byt_mk, Ex.siz_mk]
    have hb := h.bd
    have h1 : r.size ≤ 140737488351232 := hb.r1
    have h2 : n.size ≤ 140737488351232 := hb.n1
    have h3 := sum_le_mul Ex.byt Ex.siz 281474976702464 s (fun t ht => by
      obtain ⟨j, hj, rfl⟩ := List.getElem_of_mem ht
      exact ih _ ht (((Ex.in_mk ..).1 h).2 j hj).2)
    rw [Nat.add_mul]
    omega
def IntRO (n : Int) (w : World) (e : Ending) (w' : World) : Prop := e = .returned (.int .i64 n) ∧ Below w.heap.size w w'
def BoolRO (b : Bool) (w : World) (e : Ending) (w' : World) : Prop := e = .returned (.bool b) ∧ Below w.heap.size w w'
set_option maxRecDepth 100000 in
set_option maxHeartbeats 3200000 in
theorem bytes_any (T : Ex) : ∀ (w : World), T.In w → T.siz ≤ 600 → Calls Tryz.prog 68 #[T.val] w (IntRO T.byt w) := by
  induction T using Ex.ind with
  | h kk rr nn dd A c s ih =>
  intro w hin hz
  have HB1 := Lib.hid (belO w (.cells #[.int .u8 kk, .string rr, .string nn, .int .i64 dd, .slice A s.length c] 29))
  have HI := Lib.hid (hin.below HB1.out)
  have HC : Hid (Ex.Box (w.alloc (.cells #[.int .u8 kk, .string rr, .string nn, .int .i64 dd, .slice A s.length c] 29)) w.heap.size (.mk kk rr nn dd A c s)) := Ex.Box.new w (.mk kk rr nn dd A c s) 29
  have IH := Lib.hid ih
  have HZ := Lib.hid hz
  have hbd := hin.bd
  obtain ⟨-, -, -, -, hr1, hn1, hl1, hc1, -⟩ := hbd
  have hr : (rr.size : Int) ≤ 140737488351232 := by have : rr.size ≤ 140737488351232 := hr1; omega
  have hn : (nn.size : Int) ≤ 140737488351232 := by have : nn.size ≤ 140737488351232 := hn1; omega
  have hl63 : s.length ≤ 9223372036854775807 := by have : s.length ≤ 140737488351232 := hc1; omega
  have HY := Lib.hid hin.byt_le
  have hE := Ex.byt_mk kk rr nn dd A c s
  obtain ⟨Y, hY⟩ : ∃ Y, (Ex.mk kk rr nn dd A c s).byt = Y := ⟨_, rfl⟩
  rw [hY] at hE ⊢
  have hY2 : (Y : Int) ≤ 168884986021478400 := by have := HY.out; rw [hY] at this; omega
  have HE := Lib.hid hE
  clear hE hin ih hz hr1 hn1 hl1 hc1 HY hY
  show Calls Tryz.prog 68 #[.agg #[.int .u8 kk, .string rr, .string nn, .int .i64 dd, .slice A s.length c]] w _
  go_enter Tryz.func68, Tryz.ntmps68
  go_wp2_with (fail)
  generalize w.alloc (.cells #[.int .u8 kk, .string rr, .string nn, .int .i64 dd, .slice A s.length c] 29) = w1 at *
  go_loopw [3, 4] (fun v i wr => ∃ (n k : Nat), k ≤ s.length ∧ v = .int .i64 n ∧ i = .int .i64 k ∧ n ≤ Y ∧ Hid (n = rr.size + nn.size + ((s.take k).map Ex.byt).sum) ∧ Hid (Below w1.heap.size w1 wr)) (fun _ i _ => s.length - (intOf i).toNat)
  case atStart => exact ⟨rr.size + nn.size, 0, by omega, by go_num, rfl, by have := HE.out; omega, by show _ = _; simp, Below.refl _ _⟩
  case round =>
    obtain ⟨n, k, hk, rfl, rfl, hnY, HR, HW⟩ := hrel
    have b4 : wr.cell? ⟨w.heap.size, 4, none⟩ = some (.slice A s.length c) := (HC.out.below HW.out).c4
    by_cases hlt : k < s.length
    · have HIW := Lib.hid (HI.out.below HW.out)
      obtain ⟨b, o, rfl, -, hpi, d0, d1, d2, d3, d4⟩ := HIW.out.part hlt
      have hm : s[k] ∈ s := List.getElem_mem hlt
      have HQ := Lib.hid (IH.out s[k] hm _ hpi (by have := Ex.siz_sub (k := kk) (r := rr) (n := nn) (d := dd) (A := none) (c := c) hm; have := HZ.out; rw [Ex.siz_mk] at *; omega))
      have hs := sum_take Ex.byt s k hlt
      have hs2 := sum_take_le Ex.byt s (k + 1)
      have HR2 : Hid (n + s[k].byt = rr.size + nn.size + ((s.take (k + 1)).map Ex.byt).sum) := by show _ = _; rw [hs]; have := HR.out; omega
      have hnY2 : n + s[k].byt ≤ Y := by have := HR2.out; have := HE.out; omega
      generalize s[k] = t at *
      clear hpi hm HI IH hs hs2 HR
      generalize t.byt = m at *
      go_wp2_with (go_at_call 68; ((with_reducible refine HQ.out.mono ?_); rintro x w2 ⟨rfl, hb⟩; have HW2 := Lib.hid (btO HW.out hb); clear hb))
      go_roundw
      case rel => exact ⟨n + m, k + 1, by omega, by go_num, by go_num, by omega, HR2, HW2⟩
      case measure => simp [intOf]; omega
    · obtain rfl : k = s.length := by omega
      obtain rfl : n = Y := by have h1 := HR.out; have h2 := HE.out; rw [List.take_length] at h1; omega
      clear HR HE
      go_wp2_with (fail)
      go_ret
      exact ⟨rfl, btO HB1.out HW.out⟩
set_option maxRecDepth 100000 in
set_option maxHeartbeats 3200000 in
theorem great_anyO (T : Ex) (w : World) (hin : T.In w) : Calls Tryz.prog 32 #[T.val] w (BoolRO T.grt w) := by
  have HB1 := Lib.hid (belO w (.cells #[.int .u8 T.k, .string T.r, .string T.n, .int .i64 T.d, .slice T.A T.sub.length T.c] 29))
  have HI := Lib.hid (hin.below HB1.out)
  have HC : Hid (Ex.Box (w.alloc (.cells #[.int .u8 T.k, .string T.r, .string T.n, .int .i64 T.d, .slice T.A T.sub.length T.c] 29)) w.heap.size T) := Ex.Box.new w T 29
  have HQ : Hid (∀ W, T.In W → Calls Tryz.prog 67 #[T.val, .int .i64 600, .int .i64 100] W (CntR (T.cnt 600 100).1 (T.cnt 600 100).2 W)) := fun W h => count_any T 600 100 W h (by omega) (by omega) (by omega)
  obtain ⟨m1, m2, m3⟩ := Ex.cnt_facts T 600 100 (by omega)
  have HP := Lib.hid (fun W (h : T.In W) (h2 : T.siz ≤ 600) => bytes_any T W h h2)
  have hg : T.grt = (!(T.cnt 600 100).2 || decide (600 < (T.cnt 600 100).1) || decide (3000 < (T.byt : Int))) := rfl
  have hY : ((T.cnt 600 100).2 = true → (T.cnt 600 100).1 ≤ 600 → T.siz ≤ 600) := fun h1 h2 => by have := (m3 h1 h2).1; omega
  rw [hg]
  clear hg m3 hin
  generalize (T.cnt 600 100).1 = n at *
  generalize (T.cnt 600 100).2 = b at *
  generalize T.byt = m at *
  have HY := Lib.hid hY
  clear hY
  cases b
  · go_enter Tryz.func32, Tryz.ntmps32
    obtain ⟨c0, c1, c2, c3, c4⟩ := HC.out
    go_wp2_with (go_at_call 67; ((with_reducible refine (HQ.out _ HI.out).mono ?_); rintro x w2 ⟨rfl, hb⟩; have HW2 := Lib.hid (btO HB1.out hb); clear hb))
    go_ret
    exact ⟨rfl, HW2.out⟩
  · by_cases h : 600 < n
    · go_enter Tryz.func32, Tryz.ntmps32
      obtain ⟨c0, c1, c2, c3, c4⟩ := HC.out
      go_wp2_with (go_at_call 67; ((with_reducible refine (HQ.out _ HI.out).mono ?_); rintro x w2 ⟨rfl, hb⟩; have HW2 := Lib.hid (btO HB1.out hb); clear hb))
      go_ret
      exact ⟨by simp [h], HW2.out⟩
    · have HS := HY.out rfl (by omega)
      go_enter Tryz.func32, Tryz.ntmps32
      obtain ⟨c0, c1, c2, c3, c4⟩ := HC.out
      go_wp2_with (first
        | (go_at_call 67; ((with_reducible refine (HQ.out _ HI.out).mono ?_); rintro x w2 ⟨rfl, hb⟩; have HW2 := Lib.hid (btO HB1.out hb); have HI2 := Lib.hid (HI.out.below hb); have HC2 := HC.out.below hb; obtain ⟨e0, e1, e2, e3, e4⟩ := HC2; clear hb))
        | (go_at_call 68; ((with_reducible refine (HP.out _ HI2.out HS).mono ?_); rintro x w3 ⟨rfl, hb⟩; have HW3 := Lib.hid (btO HW2.out hb); clear hb)))
      go_ret
      exact ⟨by simp, HW3.out⟩
end Go.Proofs.YtalejbabhjlehaaGreatDoor
/- Layer 9: a contract in a box of its own; a part. -/
namespace Go.Proofs.YtalejbabhjlehaaGreatDoor
open Go Go.RowKit
structure Ct.Box (w : World) (b : Nat) (T : Ct) : Prop where
  c0 : w.cell? ⟨b, 0, none⟩ = some (.int .u8 T.k)
  c1 : w.cell? ⟨b, 1, none⟩ = some (.string T.f)
  c2 : w.cell? ⟨b, 2, none⟩ = some (.string T.t)
  c3 : w.cell? ⟨b, 3, none⟩ = some (.string T.n)
  c4 : w.cell? ⟨b, 4, none⟩ = some (.int .u8 T.x.k)
  c5 : w.cell? ⟨b, 5, none⟩ = some (.string T.x.r)
  c6 : w.cell? ⟨b, 6, none⟩ = some (.string T.x.n)
  c7 : w.cell? ⟨b, 7, none⟩ = some (.int .i64 T.x.d)
  c8 : w.cell? ⟨b, 8, none⟩ = some (.slice T.x.A T.x.sub.length T.x.c)
  c9 : w.cell? ⟨b, 9, none⟩ = some (.int .i64 T.d)
  c10 : w.cell? ⟨b, 10, none⟩ = some (.slice T.DA T.dl.length T.dc)
  c11 : w.cell? ⟨b, 11, none⟩ = some (.slice T.A T.sub.length T.c)
theorem Ct.Box.below {w w' : World} {b : Nat} {T : Ct} (h : Ct.Box w b T) (hb : Below w.heap.size w w') : Ct.Box w' b T := ⟨cellO hb h.c0, cellO hb h.c1, cellO hb h.c2, cellO hb h.c3, cellO hb h.c4, cellO hb h.c5, cellO hb h.c6, cellO hb h.c7, cellO hb h.c8, cellO hb h.c9, cellO hb h.c10, cellO hb h.c11⟩
theorem Ct.Box.new (w : World) (T : Ct) (ty : TypeId) : Ct.Box (w.alloc (.cells #[.int .u8 T.k, .string T.f, .string T.t, .string T.n, .int .u8 T.x.k, .string T.x.r, .string T.x.n, .int .i64 T.x.d, .slice T.x.A T.x.sub.length T.x.c, .int .i64 T.d, .slice T.DA T.dl.length T.dc, .slice T.A T.sub.length T.c] ty)) w.heap.size T := by
  refine ⟨?_, ?_, ?_, ?_, ?_, ?_, ?_, ?_, ?_, ?_, ?_, ?_⟩
  all_goals (rw [World.cell?_alloc_at _ _ _ _ rfl]; rfl)
theorem Ct.In.part {w : World} {kk : Int} {ff tt nn : ByteArray} {X : Ex} {dd : Int} {DA : Option Addr} {dl : List Int} {dc : Nat} {A : Option Addr} {c : Nat} {s : List Ct} (h : Ct.In w (.mk kk ff tt nn X dd DA dl dc A c s)) {j : Nat} (hj : j < s.length) : ∃ b o, A = some ⟨b, o, none⟩ ∧ b < w.heap.size ∧ Ct.In w s[j] ∧
    w.cell? ⟨b, o + j * 12, none⟩ = some (.int .u8 s[j].k) ∧ w.cell? ⟨b, o + j * 12 + 1, none⟩ = some (.string s[j].f) ∧ w.cell? ⟨b, o + j * 12 + 2, none⟩ = some (.string s[j].t) ∧ w.cell? ⟨b, o + j * 12 + 3, none⟩ = some (.string s[j].n) ∧ w.cell? ⟨b, o + j * 12 + 4, none⟩ = some (.int .u8 s[j].x.k) ∧ w.cell? ⟨b, o + j * 12 + 5, none⟩ = some (.string s[j].x.r) ∧ w.cell? ⟨b, o + j * 12 + 6, none⟩ = some (.string s[j].x.n) ∧ w.cell? ⟨b, o + j * 12 + 7, none⟩ = some (.int .i64 s[j].x.d) ∧ w.cell? ⟨b, o + j * 12 + 8, none⟩ = some (.slice s[j].x.A s[j].x.sub.length s[j].x.c) ∧ w.cell? ⟨b, o + j * 12 + 9, none⟩ = some (.int .i64 s[j].d) ∧ w.cell? ⟨b, o + j * 12 + 10, none⟩ = some (.slice s[j].DA s[j].dl.length s[j].dc) ∧ w.cell? ⟨b, o + j * 12 + 11, none⟩ = some (.slice s[j].A s[j].sub.length s[j].c) := by
  obtain ⟨⟨b, o, h1, h2, h3⟩, h4⟩ := h.get (j := j) hj
  exact ⟨b, o, h1, h2, h4, h3 0 _ rfl, h3 1 _ rfl, h3 2 _ rfl, h3 3 _ rfl, h3 4 _ rfl, h3 5 _ rfl, h3 6 _ rfl, h3 7 _ rfl, h3 8 _ rfl, h3 9 _ rfl, h3 10 _ rfl, h3 11 _ rfl⟩
end Go.Proofs.YtalejbabhjlehaaGreatDoor

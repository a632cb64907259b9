/- Joined: OeJ, OeK, OsR, OsA, OsB, OsC, OsD, OsE, OsF. -/
import Derived.Test.YtnomccgdajcfiaaDoorPk3
import Derived.Test.YtnomccgdajcfiaaDoorPk27
import Derived.Test.YtnomccgdajcfiaaDoorPk25
import Derived.Test.YtnomccgdajcfiaaDoorPk21
import Derived.Test.YtnomccgdajcfiaaDoorPk26
import Derived.Deep.RegionHeld3
import Derived.Deep.RegionLaw
/- Layer 8: a list of trees laid in an expression's box, one part at a time. -/
namespace Go.Proofs.YtnomccgdajcfiaaDoor
open Go Go.RowKit Go.BigFrame
theorem run_append_ownT {P : Program} (w : World) (base : Nat) (t ty e : TypeId) (i : TypeInfo) (z : Value) (size bytes : Nat) (ht : P.underlying t = some (.slice e)) (hi : P.info? e = some i) (hz : i.zero = some z)
    (hsize : i.size = size) (hby : i.bytes = bytes) (hzs : z.cells.size = size) (hsz : 0 < size)
    (v : Value) (n : Nat) (xs : List Value) (hown : w.ownsRow base e size v n xs)
    (a : Addr) (m c : Nat) (news : List Value) (hl : news.length = m * size) (hnews : ∀ j u, news[j]? = some u → w.cell? (a.add j) = some u) (h1 : ∀ u ∈ news, u.oneCell' = true) (hm : 0 < m)
    (h63 : n + m ≤ maxLen) (hbytes : (n + m) * bytes ≤ 140737488355328) (hbase : base ≤ w.heap.size) :
    ∃ v' w', (Builtin.append_ #[t, t] ty #[v, .slice (some a) m c]).run P w = .ok v' w' ∧ w'.ownsRow base e size v' (n + m) (xs ++ news) ∧ w.grownBy w' v.ownBlock ∧ (v'.ownBlock = v.ownBlock ∨ v'.ownBlock = some w.heap.size) := by
  obtain ⟨v', w', hr, h2, h3, -⟩ := run_append_own (P := P) w base t ty e i z size bytes ht hi hz hsize hby hzs hsz v n xs hown a m c news hl hnews h1 h63 hbytes hbase
  refine ⟨v', w', hr, h2, h3, ?_⟩
  subst hsize
  subst hby
  have hm63 : n + m ≤ 9223372036854775807 := by simp only [maxLen] at h63; omega
  rcases hown.2 with ⟨rfl, rfl⟩ | ⟨g, cap, cur, rfl, hbg, hg, hnc, hcm, hcs, htake⟩
  · have hr2 := run_append_nil (P := P) w t ty e i z ht hi hz a m c news hl hnews (by omega) (by omega) (by have hb := hbytes; simp only [Nat.zero_add] at hb; omega)
    rw [hr] at hr2
    injection hr2 with e1 e2
    rw [e1]; exact .inr rfl
  · by_cases hroom : n + m ≤ cap
    · have hfit : n * i.size + news.length ≤ cur.size := by rw [hl, hcs, ← Nat.add_mul]; exact Nat.mul_le_mul_right _ hroom
      have hr2 := run_append_room (P := P) w t ty e i ht hi g n cap cur hg a m c news hl hnews h1 hroom hfit
      rw [hr] at hr2
      injection hr2 with e1 e2
      rw [e1]; exact .inl rfl
    · have holds : ∀ j u, xs[j]? = some u → w.cell? ((⟨g, 0, none⟩ : Addr).add j) = some u := hown.cells (g := g) rfl
      have hr2 := run_append_grow (P := P) w t ty e i z ht hi hz ⟨g, 0, none⟩ n cap xs hown.1 holds a m c news hl hnews (by omega) (by omega) (growslice_fits (by omega) hbytes)
      rw [hr] at hr2
      injection hr2 with e1 e2
      rw [e1]; exact .inr rfl
theorem sc5_rowT {w : World} {q : Nat} {a b c d e v1 v2 v3 v4 v5 : Value} {t : TypeId} (h : w.heap[q]? = some (.cells #[a, b, c, d, e] t (0, 0))) : (((((w.setCell ⟨q, 0, none⟩ v1).setCell ⟨q, 1, none⟩ v2).setCell ⟨q, 2, none⟩ v3).setCell ⟨q, 3, none⟩ v4).setCell ⟨q, 4, none⟩ v5).heap[q]? = some (.cells #[v1, v2, v3, v4, v5] t (0, 0)) := by
  simp [World.setCell, Array.getElem?_modify, h]
theorem infoEx : (Tryd.prog.info? 25).map (fun i => (i.zero, i.size, i.bytes)) = some (some (.agg #[.int .u8 0, .string ⟨#[]⟩, .string ⟨#[]⟩, .int .i64 0, .slice none 0 0]), 5, 72) := by kernel_rfl
theorem celO_len (t : Ex) : t.cel.length = 5 := rfl
theorem celO_one (t : Ex) : ∀ u ∈ t.cel, u.oneCell' = true := by
  intro u hu
  unfold Ex.cel at hu
  simp only [List.mem_cons, List.not_mem_nil, or_false] at hu
  rcases hu with rfl | rfl | rfl | rfl | rfl <;> rfl
theorem step_appT {P : Program} {ops : Array Oper} {o : Oper} {a : Act} {w : World} {K : Act → World → Prop} {Q : Exit → Act → World → Prop} {E : Prop} {base : Nat} {e : TypeId} {v : Value} {n : Nat} {xs : List Value} (hown : w.ownsRow base e 5 v n xs) (T : Ex)
    (hg : o.guard = none) (s y : Operand) (t : TypeId) (hop : o.op = Op.call { callee := Callee.builtin Builtin.append, args := #[s, y], argTypes := #[t, t] })
    (i : TypeInfo) (z : Value) (ht : P.underlying t = some (.slice e)) (hi : P.info? e = some i) (hz : i.zero = some z) (hsize : i.size = 5) (hby : i.bytes = 72) (hzs : z.cells.size = 5)
    (hs : a.eval s = v) (hx : a.eval y = .slice (some ⟨w.heap.size, 0, none⟩) 1 1) (hn : n ≤ 1000000) (hbase : base ≤ w.heap.size)
    (hK : ∀ v' w', w'.ownsRow base e 5 v' (n + 1) (xs ++ T.cel) → (w.alloc (.cells T.cel.toArray e)).grownBy w' v.ownBlock → (v'.ownBlock = v.ownBlock ∨ v'.ownBlock = some (w.alloc (.cells T.cel.toArray e)).heap.size) → K (a.put o.dst v') w') :
    if Region.wanted o (yielded ops a.tmps) = true then Oper.wp P o a (w.alloc (.cells T.cel.toArray e)) K Q else E := by
  have hw : Region.wanted o (yielded ops a.tmps) = true := by simp [Region.wanted, hg]
  rw [if_pos hw]
  obtain ⟨v', w', hr, h2, h3, h4⟩ := run_append_ownT (P := P) (w.alloc (.cells T.cel.toArray e)) base t o.type e i z 5 72 ht hi hz hsize hby hzs (by decide) v n xs (hown.alloc _) ⟨w.heap.size, 0, none⟩ 1 1 T.cel (by rfl) (fun j u hj => by
    rw [add_off]
    exact row_cell (heap_alloc_new w _) (by rw [Nat.zero_add, List.getElem?_toArray]; exact hj)) (celO_one T) (by omega) (by unfold maxLen; omega) (by omega) (by simp; omega)
  unfold Oper.wp
  simp [execOp, hop, resolve, invoke, builtin, hs, hx, hr, Result.andThen]
  exact hK _ _ h2 h3 h4
theorem own_setT {w : World} {base : Nat} {e : TypeId} {size : Nat} {v : Value} {n : Nat} {xs : List Value} (h : w.ownsRow base e size v n xs) {p : Addr} (hp : p.block < base) (u : Value) : (w.setCell p u).ownsRow base e size v n xs := by
  refine ⟨h.1, ?_⟩
  rcases h.2 with h0 | ⟨g, cap, cur, hv, hg, hh, r⟩
  · exact .inl h0
  · exact .inr ⟨g, cap, cur, hv, hg, (Below.heap_setCell w p u g (by omega)).trans hh, r⟩
structure TwL (wq : World) (v0 v1 v2 v3 : Value) (wr : World) (sv : Value) (m : Nat) (Ts : List Ex) : Prop where
  B : Below wq.heap.size wq wr
  o : wr.heap[wq.heap.size]? = some (.cells #[v0, v1, v2, v3, sv] 25 (0, 0))
  own : wr.ownsRow (wq.heap.size + 1) 25 5 sv m (rowsV Ex.cel Ts)
  len : Ts.length = m
  ts : ∀ T ∈ Ts, T.In wr ∧ T.Fr (wq.heap.size + 1) ∧ ∀ g, sv.ownBlock = some g → T.Av g
section
variable {wq : World} {v0 v1 v2 v3 : Value} {wr wr' wy w' : World} {sv sv' : Value} {m : Nat} {Ts : List Ex}
theorem TwL.to (h : TwL wq v0 v1 v2 v3 wr sv m Ts) (hb : Below wr.heap.size wr wr') : TwL wq v0 v1 v2 v3 wr' sv m Ts :=
  ⟨h.B.trans (hb.mono (Nat.le_of_lt (lt_of_block h.o))), (hb.block _ (lt_of_block h.o)).trans h.o, own_belO h.own hb, h.len, fun T hT => ⟨(h.ts T hT).1.below hb, (h.ts T hT).2⟩⟩
theorem TwL.start (wq : World) (v0 v1 v2 v3 : Value) : TwL wq v0 v1 v2 v3 (wq.alloc (.cells #[v0, v1, v2, v3, .slice none 0 0] 25)) (.slice none 0 0) 0 [] :=
  ⟨belO _ _, heap_alloc_new wq _, World.ownsRow_nil _ _ _ _, rfl, fun T hT => by simp at hT⟩
theorem TwL.app (h : TwL wq v0 v1 v2 v3 wr sv m Ts) (hby : Below wr.heap.size wr wy) {T : Ex} (hT : T.In wy) (hF : T.Fr wr.heap.size) {o : Obj} (hg : (wy.alloc o).grownBy w' sv.ownBlock)
    (hown : w'.ownsRow (wq.heap.size + 1) 25 5 sv' (m + 1) (rowsV Ex.cel Ts ++ T.cel)) (hn : sv'.ownBlock = sv.ownBlock ∨ sv'.ownBlock = some (wy.alloc o).heap.size) :
    TwL wq v0 v1 v2 v3 (w'.setCell ⟨wq.heap.size, 4, none⟩ sv') sv' (m + 1) (Ts ++ [T]) ∧ w'.heap[wq.heap.size]? = some (.cells #[v0, v1, v2, v3, sv] 25 (0, 0)) ∧ Below wq.heap.size wq w' := by
  have h7 : wq.heap.size < wr.heap.size := lt_of_block h.o
  have hlt := h.own.lt
  have hsz : wy.heap.size < (wy.alloc o).heap.size := by rw [World.size_alloc]; omega
  have hy := hby.size
  have hblk : ∀ k, k ≤ wq.heap.size → w'.heap[k]? = wr.heap[k]? := fun k hk => by
    rw [hg.block k (by omega) (fun e => by have := hlt k e.symm; omega)]
    exact ((belO wy o).block k (by omega)).trans (hby.block k (by omega))
  have h2 : w'.heap[wq.heap.size]? = some (.cells #[v0, v1, v2, v3, sv] 25 (0, 0)) := (hblk _ (Nat.le_refl _)).trans h.o
  have h1 : Below wq.heap.size wq (wy.alloc o) := (h.B.trans (hby.mono (by omega))).trans ((belO wy o).mono (by omega))
  have h5 : Below wq.heap.size wq w' := h1.grown hg (Nat.le_trans h.B.size (Nat.le_trans hy (Nat.le_of_lt hsz))) (fun k hk => by have := hlt k hk; omega)
  refine ⟨⟨?_, ?_, ?_, ?_, ?_⟩, h2, h5⟩
  · exact h5.setCell (p := ⟨wq.heap.size, 4, none⟩) (Nat.le_refl _) _
  · exact heap_setCell_same w' wq.heap.size 4 _ _ _ h2
  · rw [rowsV_snoc]
    exact own_setT hown (Nat.lt_succ_self _) _
  · rw [List.length_append, h.len]; rfl
  · intro T0 hT0
    have key : T0.In wy ∧ T0.Fr (wq.heap.size + 1) ∧ (∀ g, sv.ownBlock = some g → T0.Av g) ∧ T0.Av (wy.alloc o).heap.size := by
      rcases List.mem_append.1 hT0 with hm | hm
      · obtain ⟨a1, a2, a3⟩ := h.ts T0 hm
        exact ⟨a1.below hby, a2, a3, (a1.below hby).av (Nat.le_of_lt hsz)⟩
      · obtain rfl := List.mem_singleton.1 hm
        exact ⟨hT, hF.mono (by omega), fun g hg => hF.av (hlt g hg).2, hT.av (Nat.le_of_lt hsz)⟩
    obtain ⟨k1, k2, k3, k4⟩ := key
    refine ⟨Ex.In.set _ _ (Ex.In.grown hg (k1.below (belO wy o)) k3) (k2.av (Nat.lt_succ_self _)), k2, fun g hg' => ?_⟩
    rcases hn with e | e
    · exact k3 g (by rw [← e]; exact hg')
    · rw [e] at hg'
      injection hg' with hg'
      rw [← hg']; exact k4
theorem TwL.tree (h : TwL wq v0 v1 v2 v3 wr sv m Ts) (k : Int) (r n : ByteArray) (d : Int) (h0 : 0 ≤ k) (h1 : k ≤ 255) (hr : r.size ≤ 140737488351232) (hn : n.size ≤ 140737488351232) (d0 : -9223372036854775808 ≤ d) (d1 : d ≤ 9223372036854775807) (hm : m ≤ 1000000) :
    ∃ A c, sv = .slice A m c ∧ m = Ts.length ∧ (Ex.mk k r n d A c Ts).In wr ∧ (Ex.mk k r n d A c Ts).Fr (wq.heap.size + 1) := by
  obtain ⟨A, c, hv, hl, rd, nn, hb, hc, hm2⟩ := RowsR.of_own celO_len (by decide) h.own
  refine ⟨A, c, hv, hl, ?_, ?_⟩
  · rw [Ex.in_mk]
    exact ⟨⟨h0, h1, d0, d1, hr, hn, by show Ts.length ≤ c; omega, by show Ts.length ≤ 140737488351232; omega, nn⟩, fun j hj => ⟨rd j hj, (h.ts _ (List.getElem_mem hj)).1⟩⟩
  · rw [Ex.fr_mk]
    exact ⟨fun _ b o e => (hb b o e).1, fun t ht => (h.ts t ht).2.1⟩
end
end Go.Proofs.YtnomccgdajcfiaaDoor
/- Layer 8: the law's own function fixed. -/
namespace Go.Proofs.YtnomccgdajcfiaaDoor
open Go Go.RowKit Go.BigFrame
section
variable {wq : World} {v0 v1 v2 v3 : Value} {wr : World} {sv : Value} {m : Nat} {Ts : List Ex}
theorem TwL.cells (h : TwL wq v0 v1 v2 v3 wr sv m Ts) : wr.cell? ⟨wq.heap.size, 0, none⟩ = some v0 ∧ wr.cell? ⟨wq.heap.size, 1, none⟩ = some v1 ∧ wr.cell? ⟨wq.heap.size, 2, none⟩ = some v2 ∧ wr.cell? ⟨wq.heap.size, 3, none⟩ = some v3 ∧ wr.cell? ⟨wq.heap.size, 4, none⟩ = some sv :=
  ⟨row_cell (j := 0) h.o rfl, row_cell (j := 1) h.o rfl, row_cell (j := 2) h.o rfl, row_cell (j := 3) h.o rfl, row_cell (j := 4) h.o rfl⟩
end
theorem own_sliceT {w : World} {base : Nat} {e : TypeId} {size : Nat} {v : Value} {n : Nat} {xs : List Value} (h : w.ownsRow base e size v n xs) : ∃ A c, v = .slice A n c := by
  rcases h.2 with ⟨rfl, rfl⟩ | ⟨g, cap, cur, rfl, -⟩
  · exact ⟨none, 0, rfl⟩
  · exact ⟨_, cap, rfl⟩
theorem isSome_setT (w : World) (a b : Addr) (v : Value) (h : (w.cell? b).isSome = true) : ((w.setCell a v).cell? b).isSome = true := by
  by_cases e : a = b
  · subst e; rw [World.cell?_setCell_same' _ _ _ h]; rfl
  · rw [World.cell?_setCell_other _ _ _ _ e]; exact h
end Go.Proofs.YtnomccgdajcfiaaDoor
/- Layer 8: rows that a law writes into. -/
namespace Go.Proofs.YtnomccgdajcfiaaDoor
open Go Go.RowKit Go.BigFrame
def RowW (B N : Nat) (A : Option Addr) (n : Nat) (w : World) : Prop := n = 0 ∨ ∃ g cur t, A = some ⟨g, 0, none⟩ ∧ B ≤ g ∧ g < N ∧ w.heap[g]? = some (.cells cur t (0, 0)) ∧ n ≤ cur.size
section
variable {B N : Nat} {A : Option Addr} {n : Nat} {w w' : World}
theorem RowW.below (h : RowW B N A n w) (hb : Below w.heap.size w w') : RowW B N A n w' := by
  rcases h with h | ⟨g, cur, t, h1, h2, h3, h4, h5⟩
  · exact .inl h
  · exact .inr ⟨g, cur, t, h1, h2, h3, (hb.block g (lt_of_block h4)).trans h4, h5⟩
theorem RowW.mono (h : RowW B N A n w) {B' N' : Nat} (hB : B' ≤ B) (hN : N ≤ N') : RowW B' N' A n w := by
  rcases h with h | ⟨g, cur, t, h1, h2, h3, h4, h5⟩
  · exact .inl h
  · exact .inr ⟨g, cur, t, h1, by omega, by omega, h4, h5⟩
theorem RowW.set (h : RowW B N A n w) (b o : Nat) (v : Value) : RowW B N A n (w.setCell ⟨b, o, none⟩ v) := by
  rcases h with h | ⟨g, cur, t, h1, h2, h3, h4, h5⟩
  · exact .inl h
  · by_cases e : g = b
    · subst e
      refine .inr ⟨g, cur.setIfInBounds o v, t, h1, h2, h3, ?_, by simpa using h5⟩
      exact heap_setCell_same w g o _ _ _ h4
    · exact .inr ⟨g, cur, t, h1, h2, h3, (Below.heap_setCell w ⟨b, o, none⟩ v g e).trans h4, h5⟩
theorem RowW.at (h : RowW B N A n w) {i : Nat} (hi : i < n) : ∃ g, A = some ⟨g, 0, none⟩ ∧ B ≤ g ∧ g < N ∧ (∃ u, w.cell? ⟨g, i, none⟩ = some u) ∧ w.frozen? ⟨g, i, none⟩ = false := by
  rcases h with h | ⟨g, cur, t, h1, h2, h3, h4, h5⟩
  · omega
  · exact ⟨g, h1, h2, h3, ⟨_, row_cell h4 (Array.getElem?_eq_getElem (by omega))⟩, row_frz h4⟩
theorem RowW.own {T : TypeId} {k c : Nat} {xs : List Value} (h : w.ownsRow B T k (.slice A n c) n xs) : RowW B w.heap.size A (n * k) w := by
  rcases h.2 with ⟨-, h0⟩ | ⟨g, cap, cur, hv, hb, hh, hn, -, hs, -⟩
  · exact .inl (by rw [h0, Nat.zero_mul])
  · injection hv with e1 e2 e3
    exact .inr ⟨g, cur, T, e1, hb, lt_of_block hh, hh, by rw [hs]; exact Nat.mul_le_mul_right _ hn⟩
end
end Go.Proofs.YtnomccgdajcfiaaDoor
/- Layer 8: the reference's Twin. -/
namespace Go.Proofs.YtnomccgdajcfiaaDoor
open Go Go.RowKit Go.BigFrame
def TwnR (T : Ex) (w : World) (e : Ending) (w' : World) : Prop := ∃ T' : Ex, e = .returned T'.val ∧ T'.In w' ∧ T'.er = T.er ∧ T'.Fr w.heap.size ∧ RowW w.heap.size w'.heap.size T'.A (T'.sub.length * 5) w' ∧ Below w.heap.size w w'
section
variable {wq : World} {v0 v1 v2 v3 : Value} {wr : World} {sv : Value} {m : Nat} {Ts : List Ex}
theorem tw_end {w : World} {T : Ex} {k' d' : Int} {r n : ByteArray} (h : TwL wq (.int .u8 k') (.string r) (.string n) (.int .i64 d') wr sv m Ts) (hq : wq.heap.size = w.heap.size + 1 + 1) (hB : Below w.heap.size w wq) (h0 : 0 ≤ k') (h1 : k' ≤ 255) (hr : r.size ≤ 140737488351232) (hn : n.size ≤ 140737488351232) (d0 : -9223372036854775808 ≤ d') (d1 : d' ≤ 9223372036854775807) (hm : m ≤ 1000000)
    (he : Ex.mk k' r n d' none 0 (Ts.map Ex.er) = T.er) :
    TwnR T w (.returned (.agg #[.int .u8 k', .string r, .string n, .int .i64 d', sv])) (((((wr.setCell ⟨w.heap.size + 1, 0, none⟩ (.int .u8 k')).setCell ⟨w.heap.size + 1, 1, none⟩ (.string r)).setCell ⟨w.heap.size + 1, 2, none⟩ (.string n)).setCell ⟨w.heap.size + 1, 3, none⟩ (.int .i64 d')).setCell ⟨w.heap.size + 1, 4, none⟩ sv) := by
  obtain ⟨A, c, rfl, hl, hi, hf⟩ := h.tree k' r n d' h0 h1 hr hn d0 d1 hm
  have hav : (Ex.mk k' r n d' A c Ts).Av (w.heap.size + 1) := hf.av (by omega)
  have hle : w.heap.size ≤ w.heap.size + 1 := by omega
  refine ⟨Ex.mk k' r n d' A c Ts, by rw [hl]; rfl, ?_, by rw [Ex.er_mk]; exact he, hf.mono (by omega), ?_, ?_⟩
  · exact ((((hi.set ⟨w.heap.size + 1, 0, none⟩ _ hav).set ⟨w.heap.size + 1, 1, none⟩ _ hav).set ⟨w.heap.size + 1, 2, none⟩ _ hav).set ⟨w.heap.size + 1, 3, none⟩ _ hav).set ⟨w.heap.size + 1, 4, none⟩ _ hav
  · subst hl
    exact (((((RowW.own h.own).mono (B' := w.heap.size) (by omega) (by simp [World.setCell])).set _ _ _).set _ _ _).set _ _ _).set _ _ _ |>.set _ _ _
  · have hb : Below w.heap.size w wr := hB.trans (h.B.mono (by omega))
    exact ((((hb.setCell (p := ⟨w.heap.size + 1, 0, none⟩) hle _).setCell (p := ⟨w.heap.size + 1, 1, none⟩) hle _).setCell (p := ⟨w.heap.size + 1, 2, none⟩) hle _).setCell (p := ⟨w.heap.size + 1, 3, none⟩) hle _).setCell (p := ⟨w.heap.size + 1, 4, none⟩) hle _
end
set_option maxRecDepth 100000 in
set_option maxHeartbeats 6400000 in
theorem rtwin8_any (T : Ex) : ∀ (w : World), T.In w → T.siz ≤ 600 → Calls Tryd.prog 18 #[T.val] w (TwnR T w) := by
  have mixed : Tryd.prog.follows Departure.mixedOrders = true := by kernel_rfl
  induction T using Ex.ind with
  | h kk rr nn dd A c s ih =>
  intro w hin hz
  obtain ⟨i0, hi0, hz0, hs0, hb0⟩ := info_parts infoEx
  have hbd := hin.bd
  have hlen : s.length ≤ 600 := by have := Ex.len_lt (k := kk) (r := rr) (n := nn) (d := dd) (A := A) (c := c) (s := s); omega
  have hB1 := belO w (.cells #[.int .u8 kk, .string rr, .string nn, .int .i64 dd, .slice A s.length c] 25)
  have hC : Ex.Box (w.alloc (.cells #[.int .u8 kk, .string rr, .string nn, .int .i64 dd, .slice A s.length c] 25)) w.heap.size (.mk kk rr nn dd A c s) := Ex.Box.new w (.mk kk rr nn dd A c s) 25
  obtain ⟨w1, hw1⟩ : ∃ w1, w.alloc (.cells #[.int .u8 kk, .string rr, .string nn, .int .i64 dd, .slice A s.length c] 25) = w1 := ⟨_, rfl⟩
  rw [hw1] at hB1 hC
  have s1 : w1.heap.size = w.heap.size + 1 := by rw [← hw1, World.size_alloc]
  have hB2 := belO w1 (.cells #[.int .u8 0, .string ⟨#[]⟩, .string ⟨#[]⟩, .int .i64 0, .slice none 0 0] 25)
  have hR := heap_alloc_new w1 (.cells #[.int .u8 0, .string ⟨#[]⟩, .string ⟨#[]⟩, .int .i64 0, .slice none 0 0] 25)
  obtain ⟨wq, hwq⟩ : ∃ wq, w1.alloc (.cells #[.int .u8 0, .string ⟨#[]⟩, .string ⟨#[]⟩, .int .i64 0, .slice none 0 0] 25) = wq := ⟨_, rfl⟩
  rw [hwq] at hB2 hR
  rw [s1] at hR
  have s2 : wq.heap.size = w.heap.size + 1 + 1 := by rw [← hwq, World.size_alloc, s1]
  have hB := btO hB1 hB2
  have hCq := hC.below hB2
  obtain ⟨c0, c1, c2, c3, c4⟩ := hCq
  simp only [Ex.k, Ex.r, Ex.n, Ex.d, Ex.A, Ex.c, Ex.sub] at c0 c1 c2 c3 c4
  have HB := Lib.hid hB
  have HR := Lib.hid hR
  have HS2 := Lib.hid s2
  have HC := Lib.hid (hC.below hB2)
  have HI := Lib.hid (hin.below hB)
  have IH := Lib.hid ih
  have HZ := Lib.hid (fun t (ht : t ∈ s) => (show t.siz ≤ 600 by have := Ex.siz_sub (k := kk) (r := rr) (n := nn) (d := dd) (A := A) (c := c) ht; omega))
  have HBD := Lib.hid hbd
  have hk0 : 0 ≤ kk := hbd.k0
  have hk1 : kk ≤ 255 := hbd.k1
  have hl63 : s.length ≤ 9223372036854775807 := by omega
  show Calls Tryd.prog 18 #[.agg #[.int .u8 kk, .string rr, .string nn, .int .i64 dd, .slice A s.length c]] w _
  have HF := Lib.hid (show ∀ Ts : List Ex, Ts.map Ex.er = s.map Ex.er → Ex.mk kk rr nn dd none 0 (Ts.map Ex.er) = Ex.er (.mk kk rr nn dd A c s) from fun Ts e => by rw [Ex.er_mk, e])
  have HN := Lib.hid (show 0 ≤ kk ∧ kk ≤ 255 ∧ -9223372036854775808 ≤ dd ∧ dd ≤ 9223372036854775807 from ⟨hbd.k0, hbd.k1, hbd.d0, hbd.d1⟩)
  have HT0 := TwL.start wq (.int .u8 kk) (.string rr) (.string nn) (.int .i64 dd)
  have hbq := belO wq (.cells #[.int .u8 kk, .string rr, .string nn, .int .i64 dd, .slice none 0 0] 25)
  have x0 := cellO hbq c0
  have x1 := cellO hbq c1
  have x2 := cellO hbq c2
  have x3 := cellO hbq c3
  have x4 := cellO hbq c4
  obtain ⟨o0, o1, o2, o3, o4⟩ := HT0.cells
  have p0 := row_frz (j := 0) HT0.o
  have p3 := row_frz (j := 3) HT0.o
  rw [s2] at o0 o1 o2 o3 o4 p0 p3
  have HT := Lib.hid HT0
  clear hin ih hz hbd hB1 hB2 hB hC hR HT0 hbq
  skip
  go_enter Tryd.func18, Tryd.ntmps18
  go_wp2_with (fail)
  clear c0 c1 c2 c3 c4 x0 x1 x2 x3 x4 o0 o1 o2 o3 o4 p0 p3
  go_loopw [4] (fun i wr => ∃ (k : Nat) (sv : Value) (Ts : List Ex), k ≤ s.length ∧ i = .int .i64 k ∧ Hid (TwL wq (.int .u8 kk) (.string rr) (.string nn) (.int .i64 dd) wr sv k Ts) ∧ Hid (Ts.map Ex.er = (s.take k).map (Ex.er))) (fun i _ => s.length - (intOf i).toNat)
  case atStart => exact ⟨0, _, [], by omega, rfl, HT.out, by show _ = _; simp⟩
  case round =>
    obtain ⟨k, sv, Ts, hk, rfl, HU, HE⟩ := hrel
    have hq2 : w.heap.size < wq.heap.size := by have := HS2.out; omega
    have b4 : wr.cell? ⟨w.heap.size, 4, none⟩ = some (.slice A s.length c) := (HU.out.B.cell (p := ⟨w.heap.size, 4, none⟩) hq2).trans HC.out.c4
    clear hq2
    by_cases hlt : k < s.length
    · obtain ⟨b, o, rfl, hbq, hpq, e0q, e1q, e2q, e3q, e4q⟩ := HI.out.part hlt
      have hpi := hpq.below HU.out.B
      have d0 := (HU.out.B.cell (p := ⟨b, o + k * 5, none⟩) hbq).trans e0q
      have d1 := (HU.out.B.cell (p := ⟨b, o + k * 5 + 1, none⟩) hbq).trans e1q
      have d2 := (HU.out.B.cell (p := ⟨b, o + k * 5 + 2, none⟩) hbq).trans e2q
      have d3 := (HU.out.B.cell (p := ⟨b, o + k * 5 + 3, none⟩) hbq).trans e3q
      have d4 := (HU.out.B.cell (p := ⟨b, o + k * 5 + 4, none⟩) hbq).trans e4q
      have HL := Lib.hid (fun (W : World) (hW : Below wq.heap.size wq W) => And.intro ((hW.cell (p := ⟨w.heap.size, 4, none⟩) (by show w.heap.size < _; have := HS2.out; omega)).trans HC.out.c4) (And.intro ((hW.cell (p := ⟨b, o + k * 5, none⟩) hbq).trans e0q) (And.intro ((hW.cell (p := ⟨b, o + k * 5 + 1, none⟩) hbq).trans e1q) (And.intro ((hW.cell (p := ⟨b, o + k * 5 + 2, none⟩) hbq).trans e2q) (And.intro ((hW.cell (p := ⟨b, o + k * 5 + 3, none⟩) hbq).trans e3q) ((hW.cell (p := ⟨b, o + k * 5 + 4, none⟩) hbq).trans e4q))))))
      clear e0q e1q e2q e3q e4q hbq
      have hm : s[k] ∈ s := List.getElem_mem hlt
      have HQ := Lib.hid (fun W (hW : Below wr.heap.size wr W) => IH.out s[k] hm W (hpi.below hW) (HZ.out _ hm))
      have HE2 := Lib.hid (show (s.take (k + 1)).map (Ex.er) = (s.take k).map (Ex.er) ++ [Ex.er s[k]] by rw [List.take_succ_eq_append_getElem hlt, List.map_append]; rfl)
      generalize s[k] = t at *
      clear hpi hm hpq
      have q4 : wr.cell? ⟨w.heap.size + 1 + 1, 4, none⟩ = some sv := by have := HU.out.cells.2.2.2.2; rw [HS2.out] at this; exact this
      have hk0 : (0 : Int) ≤ (k : Int) := by omega
      have hk1 : (k : Int) < (s.length : Int) := by omega
      have BR := (Below.refl wr.heap.size wr).drew
      have hbs : wq.heap.size + 1 ≤ wr.heap.size := lt_of_block HU.out.o
      have hk6 : k ≤ 1000000 := by omega
      have q4s : (wr.cell? ⟨w.heap.size + 1 + 1, 4, none⟩).isSome = true := by rw [q4]; rfl
      have q4f : wr.frozen? ⟨w.heap.size + 1 + 1, 4, none⟩ = false := by have := row_frz (j := 4) HU.out.o; rw [HS2.out] at this; exact this
      go_wp2_with (fail)
      go_region_law (first
        | (refine step_appT (HU.out.to B6).own T' rfl _ _ 23 rfl i0 _ Tryd.underlying23 hi0 hz0 hs0 hb0 rfl rfl rfl hk6 hw6 ?_; intro v' w7 a1 a2 a3; obtain ⟨A9, c9, rfl⟩ := own_sliceT a1; have S7 := Lib.hid (TwL.app HU.out B6 hi' hf' a2 a1 a3); have m4 : w7.cell? ⟨w.heap.size + 1 + 1, 4, none⟩ = some sv := (by have := row_cell (j := 4) S7.out.2.1 rfl; rw [HS2.out] at this; exact this); have n4 : w7.frozen? ⟨w.heap.size + 1 + 1, 4, none⟩ = false := (by have := row_frz (j := 4) S7.out.2.1; rw [HS2.out] at this; exact this); obtain ⟨l0, l1, l2, l3, l4, l5⟩ := HL.out _ S7.out.2.2; have m4s : (w7.cell? ⟨w.heap.size + 1 + 1, 4, none⟩).isSome = true := (by rw [m4]; rfl); have S9 : Below wq.heap.size wq (w7.setCell ⟨w.heap.size + 1 + 1, 4, none⟩ (.slice A9 (k + 1) c9)) := (by have := S7.out.1.B; rw [HS2.out] at this ⊢; exact this); obtain ⟨z0, z1, z2, z3, z4, z5⟩ := HL.out _ S9; have z6 : ((w7.setCell ⟨w.heap.size + 1 + 1, 4, none⟩ (.slice A9 (k + 1) c9)).cell? ⟨w.heap.size + 1 + 1, 4, none⟩).isSome = true := isSome_setT _ _ _ _ m4s; have z7 : (w7.setCell ⟨w.heap.size + 1 + 1, 4, none⟩ (.slice A9 (k + 1) c9)).frozen? ⟨w.heap.size + 1 + 1, 4, none⟩ = false := (by rw [World.frozen?_setCell]; exact n4); clear a1 a2 a3 S9)
        | (go_simp; go_at_call 18; refine (HQ.out _ BR).mono ?_; rintro e w6 ⟨T', rfl, hi', he', hf', -, hb'⟩; have B6 : Below wr.heap.size wr w6 := btO BR hb'; have g0 : w6.cell? ⟨w.heap.size + 1 + 1, 4, none⟩ = some sv := cellO hb' q4; have g0s : (w6.cell? ⟨w.heap.size + 1 + 1, 4, none⟩).isSome = true := (by rw [g0]; rfl); have g0f : w6.frozen? ⟨w.heap.size + 1 + 1, 4, none⟩ = false := (by have := row_frz (j := 4) (HU.out.to B6).o; rw [HS2.out] at this; exact this); have g1 := cellO hb' b4; have g2 := cellO hb' d0; have g3 := cellO hb' d1; have g4 := cellO hb' d2; have g5 := cellO hb' d3; have g6 := cellO hb' d4; have g0v : ∀ o : Obj, (w6.alloc o).cell? ⟨w.heap.size + 1 + 1, 4, none⟩ = some sv := (fun o => cellO (belO w6 o) g0); have g0a : ∀ o : Obj, ((w6.alloc o).cell? ⟨w.heap.size + 1 + 1, 4, none⟩).isSome = true := (fun o => by rw [cellO (belO w6 o) g0]; rfl); have g0b : ∀ o : Obj, (w6.alloc o).frozen? ⟨w.heap.size + 1 + 1, 4, none⟩ = false := (fun o => by have := row_frz (j := 4) (HU.out.to (btO B6 (belO w6 o))).o; rw [HS2.out] at this; exact this); have hw6 : wq.heap.size + 1 ≤ w6.heap.size := Nat.le_trans hbs B6.size))
      all_goals go_wp2_with (fail)
      all_goals go_roundw
      all_goals first
        | (have S8 := S7.out.1
           rw [HS2.out] at S8
           exact ⟨k + 1, _, Ts ++ [T'], by omega, by go_num, S8, by show _ = _; rw [List.map_append, HE.out, HE2.out]; simp [he']⟩)
        | (simp [intOf]; omega)
    · obtain rfl : k = s.length := by omega
      obtain ⟨A8, c8, rfl⟩ := own_sliceT HU.out.own
      have hrow := (HU.out.B.block _ (lt_of_block HR.out)).trans HR.out
      obtain ⟨u0, u1, u2, u3, u4⟩ := HU.out.cells
      rw [HS2.out] at u0 u1 u2 u3 u4
      have y0 := row_cell (j := 0) hrow rfl
      have y1 := row_cell (j := 1) hrow rfl
      have y2 := row_cell (j := 2) hrow rfl
      have y3 := row_cell (j := 3) hrow rfl
      have y4 := row_cell (j := 4) hrow rfl
      have n0 := row_frz (j := 0) hrow
      have n1 := row_frz (j := 1) hrow
      have n2 := row_frz (j := 2) hrow
      have n3 := row_frz (j := 3) hrow
      have n4 := row_frz (j := 4) hrow
      have HRow := Lib.hid hrow
      clear hrow
      go_wp2_with (fail)
      refine bodyPost_ret (results_cell_row rfl _ _ (w.heap.size + 1) 25 _ (0, 0) _ rfl (sc5_rowT HRow.out) Tryd.underlying25 (by kernel_rfl) (by kernel_rfl)) rfl ?_
      exact tw_end HU.out HS2.out HB.out HN.out.1 HN.out.2.1 HBD.out.r1 HBD.out.n1 HN.out.2.2.1 HN.out.2.2.2 (by omega) (HF.out Ts (by have := HE.out; rw [List.take_length] at this; exact this))
end Go.Proofs.YtnomccgdajcfiaaDoor
/- Layer 8: the program's Twin. -/
namespace Go.Proofs.YtnomccgdajcfiaaDoor
open Go Go.RowKit Go.BigFrame
theorem wpList_appT {P : Program} {ops : Array Oper} {rest : List Oper} {o : Oper} {a : Act} {Q : Exit → Act → World → Prop} {w : World} {base : Nat} {e : TypeId} {v : Value} {n : Nat} {xs : List Value} (hown : w.ownsRow base e 5 v n xs) (T : Ex) (hgd : o.guard = none) (s y : Operand) (t : TypeId)
    (ho : o.op = .call { callee := .builtin .append, args := #[s, y], argTypes := #[t, t] })
    (i : TypeInfo) (z : Value) (ht : P.underlying t = some (.slice e)) (hi : P.info? e = some i) (hz : i.zero = some z) (hsize : i.size = 5) (hby : i.bytes = 72) (hzs : z.cells.size = 5)
    (hs : a.eval s = v) (hx : a.eval y = .slice (some ⟨w.heap.size, 0, none⟩) 1 1) (hn : n ≤ 1000000) (hbase : base ≤ w.heap.size)
    (h : ∀ v' w', w'.ownsRow base e 5 v' (n + 1) (xs ++ T.cel) → (w.alloc (.cells T.cel.toArray e)).grownBy w' v.ownBlock → (v'.ownBlock = v.ownBlock ∨ v'.ownBlock = some (w.alloc (.cells T.cel.toArray e)).heap.size) → wpList P ops Q rest (a.put o.dst v') w') : wpList P ops Q (o :: rest) a (w.alloc (.cells T.cel.toArray e)) := by
  obtain ⟨v', w', hr, h2, h3, h4⟩ := run_append_ownT (P := P) (w.alloc (.cells T.cel.toArray e)) base t o.type e i z 5 72 ht hi hz hsize hby hzs (by decide) v n xs (hown.alloc _) ⟨w.heap.size, 0, none⟩ 1 1 T.cel (by rfl) (fun j u hj => by
    rw [add_off]
    exact row_cell (heap_alloc_new w _) (by rw [Nat.zero_add, List.getElem?_toArray]; exact hj)) (celO_one T) (by omega) (by unfold maxLen; omega) (by omega) (by simp; omega)
  have hk := h v' w' h2 h3 h4
  have hw : Region.wanted o (yielded ops a.tmps) = true := by simp [Region.wanted, hgd]
  rw [wpList, if_pos hw]
  refine .inl ?_
  simp [Oper.wp, execOp, ho, resolve, invoke, builtin, hs, hx, hr, Result.andThen]
  exact hk
structure TwP (wq wr : World) (sv : Value) (m : Nat) (Ts : List Ex) : Prop where
  B : Below wq.heap.size wq wr
  own : wr.ownsRow wq.heap.size 25 5 sv m (rowsV Ex.cel Ts)
  len : Ts.length = m
  ts : ∀ T ∈ Ts, T.In wr ∧ T.Fr wq.heap.size ∧ ∀ g, sv.ownBlock = some g → T.Av g
section
variable {wq wr wr' wy w' : World} {sv sv' : Value} {m : Nat} {Ts : List Ex}
theorem TwP.to (h : TwP wq wr sv m Ts) (hb : Below wr.heap.size wr wr') : TwP wq wr' sv m Ts :=
  ⟨h.B.trans (hb.mono h.B.size), own_belO h.own hb, h.len, fun T hT => ⟨(h.ts T hT).1.below hb, (h.ts T hT).2⟩⟩
theorem TwP.start (wq : World) : TwP wq wq (.slice none 0 0) 0 [] := ⟨Below.refl _ _, World.ownsRow_nil _ _ _ _, rfl, fun T hT => by simp at hT⟩
theorem TwP.app (h : TwP wq wr sv m Ts) (hby : Below wr.heap.size wr wy) {T : Ex} (hT : T.In wy) (hF : T.Fr wr.heap.size) {o : Obj} (hg : (wy.alloc o).grownBy w' sv.ownBlock)
    (hown : w'.ownsRow wq.heap.size 25 5 sv' (m + 1) (rowsV Ex.cel Ts ++ T.cel)) (hn : sv'.ownBlock = sv.ownBlock ∨ sv'.ownBlock = some (wy.alloc o).heap.size) :
    TwP wq w' sv' (m + 1) (Ts ++ [T]) := by
  have hlt := h.own.lt
  have hsz : wy.heap.size < (wy.alloc o).heap.size := by rw [World.size_alloc]; omega
  have hy := hby.size
  have hq := h.B.size
  have h1 : Below wq.heap.size wq (wy.alloc o) := (h.B.trans (hby.mono hq)).trans ((belO wy o).mono (by omega))
  have h5 : Below wq.heap.size wq w' := h1.grown hg (Nat.le_trans hq (Nat.le_trans hy (Nat.le_of_lt hsz))) (fun k hk => by have := hlt k hk; omega)
  refine ⟨h5, ?_, ?_, ?_⟩
  · rw [rowsV_snoc]; exact hown
  · rw [List.length_append, h.len]; rfl
  · intro T0 hT0
    have key : T0.In wy ∧ T0.Fr wq.heap.size ∧ (∀ g, sv.ownBlock = some g → T0.Av g) ∧ T0.Av (wy.alloc o).heap.size := by
      rcases List.mem_append.1 hT0 with hm | hm
      · obtain ⟨a1, a2, a3⟩ := h.ts T0 hm
        exact ⟨a1.below hby, a2, a3, (a1.below hby).av (Nat.le_of_lt hsz)⟩
      · obtain rfl := List.mem_singleton.1 hm
        exact ⟨hT, hF.mono (by omega), fun g hg => hF.av (hlt g hg).2, hT.av (Nat.le_of_lt hsz)⟩
    obtain ⟨k1, k2, k3, k4⟩ := key
    refine ⟨Ex.In.grown hg (k1.below (belO wy o)) k3, k2, fun g hg' => ?_⟩
    rcases hn with e | e
    · exact k3 g (by rw [← e]; exact hg')
    · rw [e] at hg'
      injection hg' with hg'
      rw [← hg']; exact k4
theorem TwP.tree (h : TwP wq wr sv m Ts) (k : Int) (r n : ByteArray) (d : Int) (h0 : 0 ≤ k) (h1 : k ≤ 255) (hr : r.size ≤ 140737488351232) (hn : n.size ≤ 140737488351232) (d0 : -9223372036854775808 ≤ d) (d1 : d ≤ 9223372036854775807) (hm : m ≤ 1000000) :
    ∃ A c, sv = .slice A m c ∧ m = Ts.length ∧ (Ex.mk k r n d A c Ts).In wr ∧ (Ex.mk k r n d A c Ts).Fr wq.heap.size := by
  obtain ⟨A, c, hv, hl, rd, nn, hb, hc, hm2⟩ := RowsR.of_own celO_len (by decide) h.own
  refine ⟨A, c, hv, hl, ?_, ?_⟩
  · rw [Ex.in_mk]
    exact ⟨⟨h0, h1, d0, d1, hr, hn, by show Ts.length ≤ c; omega, by show Ts.length ≤ 140737488351232; omega, nn⟩, fun j hj => ⟨rd j hj, (h.ts _ (List.getElem_mem hj)).1⟩⟩
  · rw [Ex.fr_mk]
    exact ⟨fun _ b o e => (hb b o e).1, fun t ht => (h.ts t ht).2.1⟩
end
theorem twp_end {w wq wr : World} {T : Ex} {k d : Int} {r n : ByteArray} {sv : Value} {m : Nat} {Ts : List Ex} (h : TwP wq wr sv m Ts) (hq : wq.heap.size = w.heap.size + 1 + 1) (hB : Below w.heap.size w wq) (h0 : 0 ≤ k) (h1 : k ≤ 255) (hr : r.size ≤ 140737488351232) (hn : n.size ≤ 140737488351232) (d0 : -9223372036854775808 ≤ d) (d1 : d ≤ 9223372036854775807) (hm : m ≤ 1000000)
    (he : Ex.mk k r n d none 0 (Ts.map Ex.er) = T.er) :
    TwnR T w (.returned (.agg #[.int .u8 k, .string r, .string n, .int .i64 d, sv])) ((((((wr.setCell ⟨w.heap.size, 4, none⟩ sv).setCell ⟨w.heap.size + 1, 0, none⟩ (.int .u8 k)).setCell ⟨w.heap.size + 1, 1, none⟩ (.string r)).setCell ⟨w.heap.size + 1, 2, none⟩ (.string n)).setCell ⟨w.heap.size + 1, 3, none⟩ (.int .i64 d)).setCell ⟨w.heap.size + 1, 4, none⟩ sv) := by
  obtain ⟨A, c, rfl, hl, hi, hf⟩ := h.tree k r n d h0 h1 hr hn d0 d1 hm
  have hav : (Ex.mk k r n d A c Ts).Av (w.heap.size + 1) := hf.av (by omega)
  have hav0 : (Ex.mk k r n d A c Ts).Av w.heap.size := hf.av (by omega)
  have hle : w.heap.size ≤ w.heap.size + 1 := by omega
  refine ⟨Ex.mk k r n d A c Ts, by rw [hl]; rfl, ?_, by rw [Ex.er_mk]; exact he, hf.mono (by omega), ?_, ?_⟩
  · exact (((((hi.set ⟨w.heap.size, 4, none⟩ _ hav0).set ⟨w.heap.size + 1, 0, none⟩ _ hav).set ⟨w.heap.size + 1, 1, none⟩ _ hav).set ⟨w.heap.size + 1, 2, none⟩ _ hav).set ⟨w.heap.size + 1, 3, none⟩ _ hav).set ⟨w.heap.size + 1, 4, none⟩ _ hav
  · subst hl
    exact ((((((RowW.own h.own).mono (B' := w.heap.size) (by omega) (by simp [World.setCell])).set _ _ _).set _ _ _).set _ _ _).set _ _ _).set _ _ _ |>.set _ _ _
  · have hb : Below w.heap.size w wr := hB.trans (h.B.mono (by omega))
    exact (((((hb.setCell (p := ⟨w.heap.size, 4, none⟩) (Nat.le_refl _) _).setCell (p := ⟨w.heap.size + 1, 0, none⟩) hle _).setCell (p := ⟨w.heap.size + 1, 1, none⟩) hle _).setCell (p := ⟨w.heap.size + 1, 2, none⟩) hle _).setCell (p := ⟨w.heap.size + 1, 3, none⟩) hle _).setCell (p := ⟨w.heap.size + 1, 4, none⟩) hle _
set_option maxRecDepth 100000 in
set_option maxHeartbeats 6400000 in
theorem ptwin8_any (T : Ex) : ∀ (w : World), T.In w → T.siz ≤ 600 → Calls Tryd.prog 5 #[T.val] w (TwnR T w) := by
  induction T using Ex.ind with
  | h kk rr nn dd A c s ih =>
  intro w hin hz
  obtain ⟨i0, hi0, hz0, hs0, hb0⟩ := info_parts infoEx
  have hbd := hin.bd
  have hlen : s.length ≤ 600 := by have := Ex.len_lt (k := kk) (r := rr) (n := nn) (d := dd) (A := A) (c := c) (s := s); omega
  have hB1 := belO w (.cells #[.int .u8 kk, .string rr, .string nn, .int .i64 dd, .slice A s.length c] 25)
  have r1 := heap_alloc_new w (.cells #[.int .u8 kk, .string rr, .string nn, .int .i64 dd, .slice A s.length c] 25)
  obtain ⟨w1, hw1⟩ : ∃ w1, w.alloc (.cells #[.int .u8 kk, .string rr, .string nn, .int .i64 dd, .slice A s.length c] 25) = w1 := ⟨_, rfl⟩
  rw [hw1] at hB1 r1
  have s1 : w1.heap.size = w.heap.size + 1 := by rw [← hw1, World.size_alloc]
  have hB2 := belO w1 (.cells #[.int .u8 0, .string ⟨#[]⟩, .string ⟨#[]⟩, .int .i64 0, .slice none 0 0] 25)
  have hR := heap_alloc_new w1 (.cells #[.int .u8 0, .string ⟨#[]⟩, .string ⟨#[]⟩, .int .i64 0, .slice none 0 0] 25)
  obtain ⟨wq, hwq⟩ : ∃ wq, w1.alloc (.cells #[.int .u8 0, .string ⟨#[]⟩, .string ⟨#[]⟩, .int .i64 0, .slice none 0 0] 25) = wq := ⟨_, rfl⟩
  rw [hwq] at hB2 hR
  rw [s1] at hR
  have s2 : wq.heap.size = w.heap.size + 1 + 1 := by rw [← hwq, World.size_alloc, s1]
  have hB := btO hB1 hB2
  have hX := (hB2.block _ (lt_of_block r1)).trans r1
  have c4 := row_cell (j := 4) hX rfl
  have HB := Lib.hid hB
  have HR := Lib.hid hR
  have HX := Lib.hid hX
  have HS2 := Lib.hid s2
  have HI := Lib.hid (hin.below hB)
  have IH := Lib.hid ih
  have HZ := Lib.hid (fun t (ht : t ∈ s) => (show t.siz ≤ 600 by have := Ex.siz_sub (k := kk) (r := rr) (n := nn) (d := dd) (A := A) (c := c) ht; omega))
  have HBD := Lib.hid hbd
  have HF := Lib.hid (show ∀ Ts : List Ex, Ts.map Ex.er = s.map Ex.er → Ex.mk kk rr nn dd none 0 (Ts.map Ex.er) = Ex.er (.mk kk rr nn dd A c s) from fun Ts e => by rw [Ex.er_mk, e])
  have hl63 : s.length ≤ 9223372036854775807 := by omega
  have HT := Lib.hid (TwP.start wq)
  show Calls Tryd.prog 5 #[.agg #[.int .u8 kk, .string rr, .string nn, .int .i64 dd, .slice A s.length c]] w _
  clear hin ih hz hbd hB1 hB2 hB hR hX r1
  go_enter Tryd.func5, Tryd.ntmps5
  go_wp2_with (fail)
  clear c4
  go_loopw [3, 9] (fun v i wr => ∃ (k : Nat) (sv : Value) (Ts : List Ex), k ≤ s.length ∧ v = sv ∧ i = .int .i64 k ∧ Hid (TwP wq wr sv k Ts) ∧ Hid (Ts.map Ex.er = (s.take k).map Ex.er)) (fun _ i _ => s.length - (intOf i).toNat)
  case atStart => exact ⟨0, _, [], by omega, rfl, rfl, HT.out, by show _ = _; simp⟩
  case round =>
    obtain ⟨k, sv, Ts, hk, rfl, rfl, HU, HE⟩ := hrel
    by_cases hlt : k < s.length
    · obtain ⟨b, o, rfl, hbq, hpq, e0q, e1q, e2q, e3q, e4q⟩ := HI.out.part hlt
      have hpi := hpq.below HU.out.B
      have d0 := (HU.out.B.cell (p := ⟨b, o + k * 5, none⟩) hbq).trans e0q
      have d1 := (HU.out.B.cell (p := ⟨b, o + k * 5 + 1, none⟩) hbq).trans e1q
      have d2 := (HU.out.B.cell (p := ⟨b, o + k * 5 + 2, none⟩) hbq).trans e2q
      have d3 := (HU.out.B.cell (p := ⟨b, o + k * 5 + 3, none⟩) hbq).trans e3q
      have d4 := (HU.out.B.cell (p := ⟨b, o + k * 5 + 4, none⟩) hbq).trans e4q
      clear e0q e1q e2q e3q e4q hbq
      have hm : s[k] ∈ s := List.getElem_mem hlt
      have HQ := Lib.hid (fun W (hW : Below wr.heap.size wr W) => IH.out s[k] hm W (hpi.below hW) (HZ.out _ hm))
      have HE2 := Lib.hid (show (s.take (k + 1)).map Ex.er = (s.take k).map Ex.er ++ [Ex.er s[k]] by rw [List.take_succ_eq_append_getElem hlt, List.map_append]; rfl)
      generalize s[k] = t at *
      clear hpi hm hpq
      have hk0 : (0 : Int) ≤ (k : Int) := by omega
      have hk1 : (k : Int) < (s.length : Int) := by omega
      have hk6 : k ≤ 1000000 := by omega
      go_wp2_with (first
        | (go_at_call 5; ((with_reducible refine (HQ.out _ (belO _ _)).mono ?_); rintro u w6 ⟨T', rfl, hi', he', hf', -, hb'⟩; have HB6 := Lib.hid (btO (belO wr (.cells #[.int .u8 t.k, .string t.r, .string t.n, .int .i64 t.d, .slice t.A t.sub.length t.c] 25)) hb'); have HI6 := Lib.hid hi'; have HE6 := Lib.hid he'; have HF6 := Lib.hid (hf'.mono (belO wr (.cells #[.int .u8 t.k, .string t.r, .string t.n, .int .i64 t.d, .slice t.A t.sub.length t.c] 25)).size); clear hi' he' hf' hb'))
        | (at_builtin; refine wpList_appT (HU.out.to HB6.out).own T' rfl _ _ 23 rfl i0 _ Tryd.underlying23 hi0 hz0 hs0 hb0 rfl rfl rfl hk6 (Nat.le_trans HU.out.B.size HB6.out.size) ?_; intro v' w7 a1 a2 a3; have S7 := Lib.hid (TwP.app HU.out HB6.out HI6.out HF6.out a2 a1 a3); clear a1 a2 a3))
      go_roundw
      all_goals first
        | exact ⟨k + 1, _, Ts ++ [T'], by omega, rfl, by go_num, S7, by show _ = _; rw [List.map_append, HE.out, HE2.out]; simp [HE6.out]⟩
        | (simp [intOf]; omega)
    · obtain rfl : k = s.length := by omega
      obtain ⟨A8, c8, rfl⟩ := own_sliceT HU.out.own
      have hx := (HU.out.B.block _ (lt_of_block HX.out)).trans HX.out
      have hrow := (HU.out.B.block _ (lt_of_block HR.out)).trans HR.out
      have u0 := row_cell (j := 0) hx rfl
      have u1 := row_cell (j := 1) hx rfl
      have u2 := row_cell (j := 2) hx rfl
      have u3 := row_cell (j := 3) hx rfl
      have u4 := row_cell (j := 4) hx rfl
      have f4 := row_frz (j := 4) hx
      have y0 := row_cell (j := 0) hrow rfl
      have y1 := row_cell (j := 1) hrow rfl
      have y2 := row_cell (j := 2) hrow rfl
      have y3 := row_cell (j := 3) hrow rfl
      have y4 := row_cell (j := 4) hrow rfl
      have n0 := row_frz (j := 0) hrow
      have n1 := row_frz (j := 1) hrow
      have n2 := row_frz (j := 2) hrow
      have n3 := row_frz (j := 3) hrow
      have n4 := row_frz (j := 4) hrow
      have HRow := Lib.hid ((Below.heap_setCell wr ⟨w.heap.size, 4, none⟩ (.slice A8 s.length c8) (w.heap.size + 1) (by show w.heap.size + 1 ≠ w.heap.size; omega)).trans hrow)
      clear hrow hx
      go_wp2_with (fail)
      refine bodyPost_ret (results_cell_row rfl _ _ (w.heap.size + 1) 25 _ (0, 0) _ rfl (sc5_rowT HRow.out) Tryd.underlying25 (by kernel_rfl) (by kernel_rfl)) rfl ?_
      exact twp_end HU.out HS2.out HB.out HBD.out.k0 HBD.out.k1 HBD.out.r1 HBD.out.n1 HBD.out.d0 HBD.out.d1 (by omega) (HF.out Ts (by have := HE.out; rw [List.take_length] at this; exact this))
end Go.Proofs.YtnomccgdajcfiaaDoor
/- Layer 8: the reference's Same. -/
namespace Go.Proofs.YtnomccgdajcfiaaDoor
open Go Go.RowKit Go.BigFrame
theorem er_iff {k k' : Int} {r r' n n' : ByteArray} {d d' : Int} {A A' : Option Addr} {c c' : Nat} {s s' : List Ex} : Ex.er (.mk k r n d A c s) = Ex.er (.mk k' r' n' d' A' c' s') ↔ k = k' ∧ r = r' ∧ n = n' ∧ d = d' ∧ s.map Ex.er = s'.map Ex.er := by
  rw [Ex.er_mk, Ex.er_mk]
  constructor
  · intro h
    injection h with h1 h2 h3 h4 h5 h6 h7
    exact ⟨h1, h2, h3, h4, h7⟩
  · rintro ⟨rfl, rfl, rfl, rfl, h⟩
    rw [h]
noncomputable def sameB (t u : Ex) : Bool := @decide (t.er = u.er) (Classical.propDecidable _)
theorem sameB_t {t u : Ex} (h : t.er = u.er) : sameB t u = true := by unfold sameB; rw [@decide_eq_true_iff _ (Classical.propDecidable _)]; exact h
theorem sameB_f {t u : Ex} (h : ¬ t.er = u.er) : sameB t u = false := by unfold sameB; rw [@decide_eq_false_iff_not _ (Classical.propDecidable _)]; exact h
theorem sameB_of {t u : Ex} (h : sameB t u = true) : t.er = u.er := by unfold sameB at h; rw [@decide_eq_true_iff _ (Classical.propDecidable _)] at h; exact h
theorem sameB_no {t u : Ex} (h : sameB t u = false) : ¬ t.er = u.er := by unfold sameB at h; rw [@decide_eq_false_iff_not _ (Classical.propDecidable _)] at h; exact h
structure SmG (Q : Nat) (kk : Int) (rr nn : ByteArray) (dd : Int) (A : Option Addr) (l c : Nat) (kk' : Int) (rr' nn' : ByteArray) (dd' : Int) (A' : Option Addr) (l' c' : Nat) (W : World) : Prop where
  a0 : W.cell? ⟨Q, 0, none⟩ = some (.int .u8 kk)
  a1 : W.cell? ⟨Q, 1, none⟩ = some (.string rr)
  a2 : W.cell? ⟨Q, 2, none⟩ = some (.string nn)
  a3 : W.cell? ⟨Q, 3, none⟩ = some (.int .i64 dd)
  a4 : W.cell? ⟨Q, 4, none⟩ = some (.slice A l c)
  b0 : W.cell? ⟨Q + 1, 0, none⟩ = some (.int .u8 kk')
  b1 : W.cell? ⟨Q + 1, 1, none⟩ = some (.string rr')
  b2 : W.cell? ⟨Q + 1, 2, none⟩ = some (.string nn')
  b3 : W.cell? ⟨Q + 1, 3, none⟩ = some (.int .i64 dd')
  b4 : W.cell? ⟨Q + 1, 4, none⟩ = some (.slice A' l' c')
section
variable {Q : Nat} {kk : Int} {rr nn : ByteArray} {dd : Int} {A : Option Addr} {l c : Nat} {kk' : Int} {rr' nn' : ByteArray} {dd' : Int} {A' : Option Addr} {l' c' : Nat} {W W' : World}
theorem SmG.below (h : SmG Q kk rr nn dd A l c kk' rr' nn' dd' A' l' c' W) (hb : Below W.heap.size W W') : SmG Q kk rr nn dd A l c kk' rr' nn' dd' A' l' c' W' :=
  ⟨cellO hb h.a0, cellO hb h.a1, cellO hb h.a2, cellO hb h.a3, cellO hb h.a4, cellO hb h.b0, cellO hb h.b1, cellO hb h.b2, cellO hb h.b3, cellO hb h.b4⟩
end
theorem sm_begin (w : World) (kk : Int) (rr nn : ByteArray) (dd : Int) (A : Option Addr) (l c : Nat) (kk' : Int) (rr' nn' : ByteArray) (dd' : Int) (A' : Option Addr) (l' c' : Nat) (t : TypeId) :
    ∃ w1, (w.alloc (.cells #[.int .u8 kk, .string rr, .string nn, .int .i64 dd, .slice A l c] t)).alloc (.cells #[.int .u8 kk', .string rr', .string nn', .int .i64 dd', .slice A' l' c'] t) = w1 ∧ Below w.heap.size w w1 ∧ SmG w.heap.size kk rr nn dd A l c kk' rr' nn' dd' A' l' c' w1 := by
  have r1 := heap_alloc_new w (.cells #[.int .u8 kk, .string rr, .string nn, .int .i64 dd, .slice A l c] t)
  have b1 := belO (w.alloc (.cells #[.int .u8 kk, .string rr, .string nn, .int .i64 dd, .slice A l c] t)) (.cells #[.int .u8 kk', .string rr', .string nn', .int .i64 dd', .slice A' l' c'] t)
  have r2 := heap_alloc_new (w.alloc (.cells #[.int .u8 kk, .string rr, .string nn, .int .i64 dd, .slice A l c] t)) (.cells #[.int .u8 kk', .string rr', .string nn', .int .i64 dd', .slice A' l' c'] t)
  rw [World.size_alloc] at r2
  exact ⟨_, rfl, btO (belO w _) b1, ⟨cellO b1 (row_cell (j := 0) r1 rfl), cellO b1 (row_cell (j := 1) r1 rfl), cellO b1 (row_cell (j := 2) r1 rfl), cellO b1 (row_cell (j := 3) r1 rfl), cellO b1 (row_cell (j := 4) r1 rfl), row_cell (j := 0) r2 rfl, row_cell (j := 1) r2 rfl, row_cell (j := 2) r2 rfl, row_cell (j := 3) r2 rfl, row_cell (j := 4) r2 rfl⟩⟩
theorem int_cases (a b : Int) : a = b ∨ (a == b) = false := by
  by_cases h : a = b
  · exact .inl h
  · exact .inr (beq_eq_false_iff_ne.2 h)
theorem bne_of {a b : Int} (h : (a == b) = false) : (a != b) = true := bne_iff_ne.2 (beq_eq_false_iff_ne.1 h)
theorem str_neS {a b : ByteArray} (h : (a.toList == b.toList) = false) : a ≠ b := fun e => by subst e; simp at h
set_option maxRecDepth 100000 in
set_option maxHeartbeats 6400000 in
theorem rsame8_any (T : Ex) : ∀ (U : Ex) (w : World), T.In w → U.In w → Calls Tryd.prog 17 #[T.val, U.val] w (BoolRO (sameB T U) w) := by
  induction T using Ex.ind with
  | h kk rr nn dd A c s ih =>
  intro U w hin hin2
  obtain ⟨kk', rr', nn', dd', A', c', s'⟩ := U
  obtain ⟨w1, hw1, hB, hS⟩ := sm_begin w kk rr nn dd A s.length c kk' rr' nn' dd' A' s'.length c' 25
  have HB := Lib.hid hB
  have HG := Lib.hid (fun W (hW : Below w1.heap.size w1 W) => hS.below hW)
  have HI := Lib.hid (hin.below hB)
  have HJ := Lib.hid (hin2.below hB)
  have IH := Lib.hid ih
  have hl63 : s.length ≤ 9223372036854775807 := by have := hin.bd.c1; have h2 : s.length ≤ 140737488351232 := this; omega
  have hl64 : s'.length ≤ 9223372036854775807 := by have := hin2.bd.c1; have h2 : s'.length ≤ 140737488351232 := this; omega
  obtain ⟨Y, hY⟩ : ∃ Y, sameB (.mk kk rr nn dd A c s) (.mk kk' rr' nn' dd' A' c' s') = Y := ⟨_, rfl⟩
  have no : ¬ (kk = kk' ∧ rr = rr' ∧ nn = nn' ∧ dd = dd' ∧ s.map Ex.er = s'.map Ex.er) → false = Y := fun h => by rw [← hY, sameB_f (fun e => h (er_iff.1 e))]
  have yes : (kk = kk' ∧ rr = rr' ∧ nn = nn' ∧ dd = dd' ∧ s.map Ex.er = s'.map Ex.er) → true = Y := fun h => by rw [← hY, sameB_t (er_iff.2 h)]
  rw [hY]
  clear hY
  show Calls Tryd.prog 17 #[.agg #[.int .u8 kk, .string rr, .string nn, .int .i64 dd, .slice A s.length c], .agg #[.int .u8 kk', .string rr', .string nn', .int .i64 dd', .slice A' s'.length c']] w _
  obtain ⟨a0, a1, a2, a3, a4, b0, b1, b2, b3, b4⟩ := HG.out _ (Below.refl _ _)
  clear hin hin2 ih hB hS
  rcases int_cases kk kk' with rfl | q
  · rcases str_cases rr rr' with rfl | q
    · rcases str_cases nn nn' with rfl | q
      · rcases int_cases dd dd' with rfl | q
        · by_cases q : (s.length : Int) = s'.length
          · have q2 : ((s.length : Int) == (s'.length : Int)) = true := by rw [q]; simp
            have HQl := Lib.hid (show s.length = s'.length by omega)
            have Yes := Lib.hid yes
            have No := Lib.hid no
            clear yes no q
            go_enter Tryd.func17, Tryd.ntmps17
            go_wp2_with (fail)
            clear hw1 a0 a1 a2 a3 a4 b0 b1 b2 b3 b4 q2
            go_loopw [5] (fun i wr => ∃ (k : Nat), k ≤ s.length ∧ i = .int .i64 k ∧ Hid ((s.take k).map Ex.er = (s'.take k).map Ex.er) ∧ Hid (Below w1.heap.size w1 wr)) (fun i _ => s.length - (intOf i).toNat)
            case atStart => exact ⟨0, by omega, rfl, by show _ = _; simp, Below.refl _ _⟩
            case round =>
              obtain ⟨k, hk, rfl, HE, HW⟩ := hrel
              obtain ⟨-, -, -, -, a4, -, -, -, -, b4⟩ := HG.out _ HW.out
              by_cases hlt : k < s.length
              · have hlt2 : k < s'.length := by have := HQl.out; omega
                obtain ⟨b, o, rfl, -, hpi, d0, d1, d2, d3, d4⟩ := (HI.out.below HW.out).part hlt
                obtain ⟨g, p, rfl, -, hpj, e0, e1, e2, e3, e4⟩ := (HJ.out.below HW.out).part hlt2
                have hm : s[k] ∈ s := List.getElem_mem hlt
                have HQ := Lib.hid (fun W (hW : Below wr.heap.size wr W) => IH.out s[k] hm s'[k] W (hpi.below hW) (hpj.below hW))
                have HN := Lib.hid (show s.map Ex.er = s'.map Ex.er → s[k].er = s'[k].er from fun e => by
                  have h1 : (s.map Ex.er)[k]? = (s'.map Ex.er)[k]? := by rw [e]
                  rw [List.getElem?_map, List.getElem?_map, List.getElem?_eq_getElem hlt, List.getElem?_eq_getElem hlt2] at h1
                  simpa using h1)
                have HE2 := Lib.hid (show s[k].er = s'[k].er → (s.take (k + 1)).map Ex.er = (s'.take (k + 1)).map Ex.er from fun e => by
                  rw [List.take_succ_eq_append_getElem hlt, List.take_succ_eq_append_getElem hlt2, List.map_append, List.map_append, HE.out]
                  simp [e])
                generalize s[k] = t at *
                generalize s'[k] = u at *
                have hk0 : (0 : Int) ≤ (k : Int) := by omega
                have hk1 : (k : Int) < (s.length : Int) := by omega
                have hk2 : (k : Int) < (s'.length : Int) := by omega
                go_wp2_with (fail)
                have za := fun z : Bel wr => z.cell a4
                have zb := fun z : Bel wr => z.cell b4
                have z0 := fun z : Bel wr => z.cell d0
                have z1 := fun z : Bel wr => z.cell d1
                have z2 := fun z : Bel wr => z.cell d2
                have z3 := fun z : Bel wr => z.cell d3
                have z4 := fun z : Bel wr => z.cell d4
                have y0 := fun z : Bel wr => z.cell e0
                have y1 := fun z : Bel wr => z.cell e1
                have y2 := fun z : Bel wr => z.cell e2
                have y3 := fun z : Bel wr => z.cell e3
                have y4 := fun z : Bel wr => z.cell e4
                clear hpi hpj hm a4 b4 d0 d1 d2 d3 d4 e0 e1 e2 e3 e4
                have HQ2 : Hid (∀ z : Bel wr, Calls Tryd.prog 17 #[t.val, u.val] z.1 (fun e w2 => e = .returned (.bool (sameB t u)) ∧ ∃ z2 : Bel wr, w2 = z2.1)) := fun z => Bel.calls (fun W hW => HQ.out W hW) z
                cases hb : sameB t u
                · rw [hb] at HQ2
                  have hne := sameB_no hb
                  obtain rfl := No.out (fun h => hne (HN.out h.2.2.2.2))
                  clear hb hne
                  refine wp_region_bel (by kernel_rfl) (by kernel_rfl) ?_
                  repeat (go_big_quiet_step (first
                    | (go_at_call 17; with_reducible exact HQ2.out _)))
                  refine wpQuiet_nil ?_
                  rintro _ ⟨zz, rfl⟩
                  have HW2 := Lib.hid (btO HW.out zz.2)
                  clear za zb z0 z1 z2 z3 z4 y0 y1 y2 y3 y4
                  generalize zz.1 = w2 at *
                  go_wp2_with (fail)
                  go_ret
                  exact ⟨rfl, btO HB.out HW2.out⟩
                · rw [hb] at HQ2
                  have HE3 := Lib.hid (HE2.out (sameB_of hb))
                  clear hb
                  refine wp_region_bel (by kernel_rfl) (by kernel_rfl) ?_
                  repeat (go_big_quiet_step (first
                    | (go_at_call 17; with_reducible exact HQ2.out _)))
                  refine wpQuiet_nil ?_
                  rintro _ ⟨zz, rfl⟩
                  have HW2 := Lib.hid (btO HW.out zz.2)
                  clear za zb z0 z1 z2 z3 z4 y0 y1 y2 y3 y4
                  generalize zz.1 = w2 at *
                  go_wp2_with (fail)
                  go_roundw
                  all_goals first
                    | exact ⟨k + 1, by omega, by go_num, HE3, HW2⟩
                    | (simp [intOf]; omega)
              · obtain rfl : k = s.length := by omega
                obtain rfl := Yes.out ⟨by first | trivial | rfl, by first | trivial | rfl, by first | trivial | rfl, by first | trivial | rfl, by have := HE.out; rw [List.take_length, HQl.out, List.take_length] at this; exact this⟩
                go_wp2_with (fail)
                go_ret
                exact ⟨rfl, btO HB.out HW.out⟩
          · obtain rfl := no (fun h => q (by have := congrArg List.length h.2.2.2.2; simp at this; omega))
            have q2 : ((s.length : Int) == (s'.length : Int)) = false := beq_eq_false_iff_ne.2 q
            have q3 := bne_of q2
            clear no yes q
            go_enter Tryd.func17, Tryd.ntmps17
            go_wp2_with (fail)
            go_ret
            exact ⟨rfl, HB.out⟩
        · obtain rfl := no (fun h => by rw [beq_eq_false_iff_ne] at q; exact q h.2.2.2.1)
          have q3 := bne_of q
          clear no yes
          go_enter Tryd.func17, Tryd.ntmps17
          go_wp2_with (fail)
          go_ret
          exact ⟨rfl, HB.out⟩
      · obtain rfl := no (fun h => str_neS q h.2.2.1)
        clear no yes
        go_enter Tryd.func17, Tryd.ntmps17
        go_wp2_with (fail)
        go_ret
        exact ⟨rfl, HB.out⟩
    · obtain rfl := no (fun h => str_neS q h.2.1)
      clear no yes
      go_enter Tryd.func17, Tryd.ntmps17
      go_wp2_with (fail)
      go_ret
      exact ⟨rfl, HB.out⟩
  · obtain rfl := no (fun h => by rw [beq_eq_false_iff_ne] at q; exact q h.1)
    have q3 := bne_of q
    clear no yes
    go_enter Tryd.func17, Tryd.ntmps17
    go_wp2_with (fail)
    go_ret
    exact ⟨rfl, HB.out⟩
end Go.Proofs.YtnomccgdajcfiaaDoor
/- Layer 8: the program's Same, and slices.EqualFunc with it. -/
namespace Go.Proofs.YtnomccgdajcfiaaDoor
open Go Go.RowKit Go.BigFrame
set_option maxRecDepth 100000 in
set_option maxHeartbeats 6400000 in
theorem eqf_any (kk : Int) (rr nn : ByteArray) (dd : Int) (A : Option Addr) (c : Nat) (s : List Ex) (kk' : Int) (rr' nn' : ByteArray) (dd' : Int) (A' : Option Addr) (c' : Nat) (s' : List Ex) (w : World) (hin : Ex.In w (.mk kk rr nn dd A c s)) (hin2 : Ex.In w (.mk kk' rr' nn' dd' A' c' s'))
    (ih : ∀ t ∈ s, ∀ (U : Ex) (W : World), t.In W → U.In W → Calls Tryd.prog 16 #[t.val, U.val] W (BoolRO (sameB t U) W)) (Y : Bool) (no : ¬ (s.map Ex.er = s'.map Ex.er) → false = Y) (yes : s.map Ex.er = s'.map Ex.er → true = Y) :
    Calls Tryd.prog 28 #[.slice A s.length c, .slice A' s'.length c', .func (.func 16) #[] #[]] w (BoolRO Y w) := by
  have HI := Lib.hid hin
  have HJ := Lib.hid hin2
  have IH := Lib.hid ih
  have hl63 : s.length ≤ 9223372036854775807 := by have := hin.bd.c1; have h2 : s.length ≤ 140737488351232 := this; omega
  have hl64 : s'.length ≤ 9223372036854775807 := by have := hin2.bd.c1; have h2 : s'.length ≤ 140737488351232 := this; omega
  clear hin hin2 ih
  by_cases q : (s.length : Int) = s'.length
  · have q2 : ((s.length : Int) != (s'.length : Int)) = false := by rw [q]; simp
    have HQl := Lib.hid (show s.length = s'.length by omega)
    have Yes := Lib.hid yes
    have No := Lib.hid no
    clear yes no q
    go_enter Tryd.func28, Tryd.ntmps28
    go_wp2_with (fail)
    clear q2
    go_loopw [17] (fun i wr => ∃ (k : Nat), k ≤ s.length ∧ i = .int .i64 k ∧ Hid ((s.take k).map Ex.er = (s'.take k).map Ex.er) ∧ Hid (Below w.heap.size w wr)) (fun i _ => s.length - (intOf i).toNat)
    case atStart => exact ⟨0, by omega, rfl, by show _ = _; simp, Below.refl _ _⟩
    case round =>
      obtain ⟨k, hk, rfl, HE, HW⟩ := hrel
      by_cases hlt : k < s.length
      · have hlt2 : k < s'.length := by have := HQl.out; omega
        obtain ⟨b, o, rfl, -, hpi, d0, d1, d2, d3, d4⟩ := (HI.out.below HW.out).part hlt
        obtain ⟨g, p, rfl, -, hpj, e0, e1, e2, e3, e4⟩ := (HJ.out.below HW.out).part hlt2
        have hm : s[k] ∈ s := List.getElem_mem hlt
        have HQ := Lib.hid (fun W (hW : Below wr.heap.size wr W) => IH.out s[k] hm s'[k] W (hpi.below hW) (hpj.below hW))
        have HN := Lib.hid (show s.map Ex.er = s'.map Ex.er → s[k].er = s'[k].er from fun e => by
          have h1 : (s.map Ex.er)[k]? = (s'.map Ex.er)[k]? := by rw [e]
          rw [List.getElem?_map, List.getElem?_map, List.getElem?_eq_getElem hlt, List.getElem?_eq_getElem hlt2] at h1
          simpa using h1)
        have HE2 := Lib.hid (show s[k].er = s'[k].er → (s.take (k + 1)).map Ex.er = (s'.take (k + 1)).map Ex.er from fun e => by
          rw [List.take_succ_eq_append_getElem hlt, List.take_succ_eq_append_getElem hlt2, List.map_append, List.map_append, HE.out]
          simp [e])
        generalize s[k] = t at *
        generalize s'[k] = u at *
        have hk0 : (0 : Int) ≤ (k : Int) := by omega
        have hk1 : (k : Int) < (s.length : Int) := by omega
        have hk2 : (k : Int) < (s'.length : Int) := by omega
        have hB1 := belO wr (.cells #[.int .u8 t.k, .string t.r, .string t.n, .int .i64 t.d, .slice t.A t.sub.length t.c] 25)
        have x0 := cellO hB1 e0
        have x1 := cellO hB1 e1
        have x2 := cellO hB1 e2
        have x3 := cellO hB1 e3
        have x4 := cellO hB1 e4
        have hB2 := belO (wr.alloc (.cells #[.int .u8 t.k, .string t.r, .string t.n, .int .i64 t.d, .slice t.A t.sub.length t.c] 25)) (.cells #[.int .u8 u.k, .string u.r, .string u.n, .int .i64 u.d, .slice u.A u.sub.length u.c] 25)
        have hr := heap_alloc_new wr (.cells #[.int .u8 t.k, .string t.r, .string t.n, .int .i64 t.d, .slice t.A t.sub.length t.c] 25)
        have t0 := cellO hB2 (row_cell (j := 0) hr rfl)
        have t1 := cellO hB2 (row_cell (j := 1) hr rfl)
        have t2 := cellO hB2 (row_cell (j := 2) hr rfl)
        have t3 := cellO hB2 (row_cell (j := 3) hr rfl)
        have t4 := cellO hB2 (row_cell (j := 4) hr rfl)
        have HB3 := Lib.hid (btO hB1 hB2)
        clear hpi hpj hm hB1 hB2 hr
        cases hb : sameB t u
        · rw [hb] at HQ
          have hne := sameB_no hb
          obtain rfl := No.out (fun h => hne (HN.out h))
          clear hb hne
          go_wp2_with (go_at_call 16; ((with_reducible refine (HQ.out _ HB3.out).mono ?_); rintro x w2 ⟨rfl, hb⟩; have HW2 := Lib.hid (btO HW.out (btO HB3.out hb)); clear hb))
          go_ret
          exact ⟨rfl, HW2.out⟩
        · rw [hb] at HQ
          have HE3 := Lib.hid (HE2.out (sameB_of hb))
          clear hb
          go_wp2_with (go_at_call 16; ((with_reducible refine (HQ.out _ HB3.out).mono ?_); rintro x w2 ⟨rfl, hb⟩; have HW2 := Lib.hid (btO HW.out (btO HB3.out hb)); clear hb))
          go_roundw
          all_goals first
            | exact ⟨k + 1, by omega, by go_num, HE3, HW2⟩
            | (simp [intOf]; omega)
      · obtain rfl : k = s.length := by omega
        obtain rfl := Yes.out (by have := HE.out; rw [List.take_length, HQl.out, List.take_length] at this; exact this)
        go_wp2_with (fail)
        go_ret
        exact ⟨rfl, HW.out⟩
  · obtain rfl := no (fun h => q (by have := congrArg List.length h; simp at this; omega))
    have q2 : ((s.length : Int) == (s'.length : Int)) = false := beq_eq_false_iff_ne.2 q
    have q3 := bne_of q2
    clear no yes q
    go_enter Tryd.func28, Tryd.ntmps28
    go_wp2_with (fail)
    go_ret
    exact ⟨rfl, Below.refl _ _⟩
set_option maxRecDepth 100000 in
set_option maxHeartbeats 6400000 in
theorem psame8_any (T : Ex) : ∀ (U : Ex) (w : World), T.In w → U.In w → Calls Tryd.prog 16 #[T.val, U.val] w (BoolRO (sameB T U) w) := by
  induction T using Ex.ind with
  | h kk rr nn dd A c s ih =>
  intro U w hin hin2
  obtain ⟨kk', rr', nn', dd', A', c', s'⟩ := U
  obtain ⟨w1, hw1, hB, hS⟩ := sm_begin w kk rr nn dd A s.length c kk' rr' nn' dd' A' s'.length c' 25
  have HB := Lib.hid hB
  obtain ⟨Y, hY⟩ : ∃ Y, sameB (.mk kk rr nn dd A c s) (.mk kk' rr' nn' dd' A' c' s') = Y := ⟨_, rfl⟩
  have no : ¬ (kk = kk' ∧ rr = rr' ∧ nn = nn' ∧ dd = dd' ∧ s.map Ex.er = s'.map Ex.er) → false = Y := fun h => by rw [← hY, sameB_f (fun e => h (er_iff.1 e))]
  have yes : (kk = kk' ∧ rr = rr' ∧ nn = nn' ∧ dd = dd' ∧ s.map Ex.er = s'.map Ex.er) → true = Y := fun h => by rw [← hY, sameB_t (er_iff.2 h)]
  rw [hY]
  clear hY
  show Calls Tryd.prog 16 #[.agg #[.int .u8 kk, .string rr, .string nn, .int .i64 dd, .slice A s.length c], .agg #[.int .u8 kk', .string rr', .string nn', .int .i64 dd', .slice A' s'.length c']] w _
  have hi := hin.below hB
  have hj := hin2.below hB
  obtain ⟨a0, a1, a2, a3, a4, b0, b1, b2, b3, b4⟩ := hS
  clear hin hin2 hB
  rcases int_cases kk kk' with rfl | q
  · rcases str_cases rr rr' with rfl | q
    · rcases str_cases nn nn' with rfl | q
      · rcases int_cases dd dd' with rfl | q
        · have HQ := Lib.hid (eqf_any kk rr nn dd A c s kk rr nn dd A' c' s' w1 hi hj ih Y (fun h => no (fun g => h g.2.2.2.2)) (fun h => yes ⟨rfl, rfl, rfl, rfl, h⟩))
          clear no yes hi hj ih
          go_enter Tryd.func16, Tryd.ntmps16
          go_wp2_with (go_at_call 28; ((with_reducible refine HQ.out.mono ?_); rintro x w2 ⟨rfl, hb⟩; have HW2 := Lib.hid hb; clear hb))
          go_ret
          exact ⟨rfl, btO HB.out HW2.out⟩
        · obtain rfl := no (fun h => by rw [beq_eq_false_iff_ne] at q; exact q h.2.2.2.1)
          clear no yes hi hj ih
          go_enter Tryd.func16, Tryd.ntmps16
          go_wp2_with (fail)
          go_ret
          exact ⟨rfl, HB.out⟩
      · obtain rfl := no (fun h => str_neS q h.2.2.1)
        clear no yes hi hj ih
        go_enter Tryd.func16, Tryd.ntmps16
        go_wp2_with (fail)
        go_ret
        exact ⟨rfl, HB.out⟩
    · obtain rfl := no (fun h => str_neS q h.2.1)
      clear no yes hi hj ih
      go_enter Tryd.func16, Tryd.ntmps16
      go_wp2_with (fail)
      go_ret
      exact ⟨rfl, HB.out⟩
  · obtain rfl := no (fun h => by rw [beq_eq_false_iff_ne] at q; exact q h.1)
    clear no yes hi hj ih
    go_enter Tryd.func16, Tryd.ntmps16
    go_wp2_with (fail)
    go_ret
    exact ⟨rfl, HB.out⟩
end Go.Proofs.YtnomccgdajcfiaaDoor
/- Layer 8: the reference's Number and Truth. -/
namespace Go.Proofs.YtnomccgdajcfiaaDoor
open Go Go.RowKit Go.BigFrame
set_option maxRecDepth 100000 in
set_option maxHeartbeats 3200000 in
theorem rnumber8_any (T : Ex) (w : World) (hin : T.In w) (hz : T.siz ≤ 600) (hby : T.byt ≤ 12000) : Calls Tryd.prog 11 #[T.val] w (BoolRO (T.isB 1) w) := by
  have hC : ∀ W, Below w.heap.size w W → Calls Tryd.prog 9 #[T.val] W (IntRO T.chk W) := fun W hW => rcheck8_any T W (hin.below hW) hz hby
  have hS : ∀ W, Below w.heap.size w W → Calls Tryd.prog 26 #[T.val] W (IntRO T.srt W) := fun W hW => rsort_any T W (hin.below hW) hz hby
  obtain ⟨B, hB⟩ : ∃ B, T.isB 1 = B := ⟨_, rfl⟩
  have key : ((T.chk != 0) = true ∧ (T.chk == 0) = false ∧ B = false) ∨ (T.chk = 0 ∧ (T.srt == 1) = false ∧ B = false) ∨ (T.chk = 0 ∧ T.srt = 1 ∧ B = true) := by
    rw [← hB]
    unfold Ex.isB
    by_cases h1 : T.chk = 0
    · by_cases h2 : T.srt = 1
      · exact .inr (.inr ⟨h1, h2, decide_eq_true ⟨h1, h2⟩⟩)
      · exact .inr (.inl ⟨h1, beq_eq_false_iff_ne.2 h2, decide_eq_false (fun h => h2 h.2)⟩)
    · exact .inl ⟨bne_iff_ne.2 h1, beq_eq_false_iff_ne.2 h1, decide_eq_false (fun h => h1 h.1)⟩
  rw [hB]
  clear hB hz hby hin
  generalize T.chk = e at *
  generalize T.srt = g at *
  have HB1 := Lib.hid (belO w (.cells #[.int .u8 T.k, .string T.r, .string T.n, .int .i64 T.d, .slice T.A T.sub.length T.c] 25))
  have hr := heap_alloc_new w (.cells #[.int .u8 T.k, .string T.r, .string T.n, .int .i64 T.d, .slice T.A T.sub.length T.c] 25)
  have HC := Lib.hid (fun W (hW : Below (w.alloc (.cells #[.int .u8 T.k, .string T.r, .string T.n, .int .i64 T.d, .slice T.A T.sub.length T.c] 25)).heap.size (w.alloc (.cells #[.int .u8 T.k, .string T.r, .string T.n, .int .i64 T.d, .slice T.A T.sub.length T.c] 25)) W) => hC W (btO HB1.out hW))
  have HS := Lib.hid (fun W (hW : Below (w.alloc (.cells #[.int .u8 T.k, .string T.r, .string T.n, .int .i64 T.d, .slice T.A T.sub.length T.c] 25)).heap.size (w.alloc (.cells #[.int .u8 T.k, .string T.r, .string T.n, .int .i64 T.d, .slice T.A T.sub.length T.c] 25)) W) => hS W (btO HB1.out hW))
  have HR := Lib.hid hr
  have c0 := row_cell (j := 0) hr rfl
  have c1 := row_cell (j := 1) hr rfl
  have c2 := row_cell (j := 2) hr rfl
  have c3 := row_cell (j := 3) hr rfl
  have c4 := row_cell (j := 4) hr rfl
  show Calls Tryd.prog 11 #[.agg #[.int .u8 T.k, .string T.r, .string T.n, .int .i64 T.d, .slice T.A T.sub.length T.c]] w _
  clear hr hC hS
  rcases key with ⟨q, q2, rfl⟩ | ⟨rfl, q, rfl⟩ | ⟨rfl, rfl, rfl⟩
  all_goals (
    go_enter Tryd.func11, Tryd.ntmps11
    go_wp2_with (first
      | (go_at_call 26; have _t := HW2; ((with_reducible refine (HS.out _ HW2.out).mono ?_); rintro u w3 ⟨rfl, hb⟩; have HW3 := Lib.hid (btO HW2.out hb); clear hb))
      | (go_at_call 9; ((with_reducible refine (HC.out _ (Below.refl _ _)).mono ?_); rintro u w2 ⟨rfl, hb⟩; have HW2 := Lib.hid hb; have d0 := cellO hb (row_cell (j := 0) HR.out rfl); have d1 := cellO hb (row_cell (j := 1) HR.out rfl); have d2 := cellO hb (row_cell (j := 2) HR.out rfl); have d3 := cellO hb (row_cell (j := 3) HR.out rfl); have d4 := cellO hb (row_cell (j := 4) HR.out rfl); clear hb)))
    go_ret
    exact ⟨rfl, btO HB1.out (by first | exact HW3.out | exact HW2.out)⟩)
set_option maxRecDepth 100000 in
set_option maxHeartbeats 3200000 in
theorem rtruth8_any (T : Ex) (w : World) (hin : T.In w) (hz : T.siz ≤ 600) (hby : T.byt ≤ 12000) : Calls Tryd.prog 13 #[T.val] w (BoolRO (T.isB 2) w) := by
  have hC : ∀ W, Below w.heap.size w W → Calls Tryd.prog 9 #[T.val] W (IntRO T.chk W) := fun W hW => rcheck8_any T W (hin.below hW) hz hby
  have hS : ∀ W, Below w.heap.size w W → Calls Tryd.prog 26 #[T.val] W (IntRO T.srt W) := fun W hW => rsort_any T W (hin.below hW) hz hby
  obtain ⟨B, hB⟩ : ∃ B, T.isB 2 = B := ⟨_, rfl⟩
  have key : ((T.chk != 0) = true ∧ (T.chk == 0) = false ∧ B = false) ∨ (T.chk = 0 ∧ (T.srt == 2) = false ∧ B = false) ∨ (T.chk = 0 ∧ T.srt = 2 ∧ B = true) := by
    rw [← hB]
    unfold Ex.isB
    by_cases h1 : T.chk = 0
    · by_cases h2 : T.srt = 2
      · exact .inr (.inr ⟨h1, h2, decide_eq_true ⟨h1, h2⟩⟩)
      · exact .inr (.inl ⟨h1, beq_eq_false_iff_ne.2 h2, decide_eq_false (fun h => h2 h.2)⟩)
    · exact .inl ⟨bne_iff_ne.2 h1, beq_eq_false_iff_ne.2 h1, decide_eq_false (fun h => h1 h.1)⟩
  rw [hB]
  clear hB hz hby hin
  generalize T.chk = e at *
  generalize T.srt = g at *
  have HB1 := Lib.hid (belO w (.cells #[.int .u8 T.k, .string T.r, .string T.n, .int .i64 T.d, .slice T.A T.sub.length T.c] 25))
  have hr := heap_alloc_new w (.cells #[.int .u8 T.k, .string T.r, .string T.n, .int .i64 T.d, .slice T.A T.sub.length T.c] 25)
  have HC := Lib.hid (fun W (hW : Below (w.alloc (.cells #[.int .u8 T.k, .string T.r, .string T.n, .int .i64 T.d, .slice T.A T.sub.length T.c] 25)).heap.size (w.alloc (.cells #[.int .u8 T.k, .string T.r, .string T.n, .int .i64 T.d, .slice T.A T.sub.length T.c] 25)) W) => hC W (btO HB1.out hW))
  have HS := Lib.hid (fun W (hW : Below (w.alloc (.cells #[.int .u8 T.k, .string T.r, .string T.n, .int .i64 T.d, .slice T.A T.sub.length T.c] 25)).heap.size (w.alloc (.cells #[.int .u8 T.k, .string T.r, .string T.n, .int .i64 T.d, .slice T.A T.sub.length T.c] 25)) W) => hS W (btO HB1.out hW))
  have HR := Lib.hid hr
  have c0 := row_cell (j := 0) hr rfl
  have c1 := row_cell (j := 1) hr rfl
  have c2 := row_cell (j := 2) hr rfl
  have c3 := row_cell (j := 3) hr rfl
  have c4 := row_cell (j := 4) hr rfl
  show Calls Tryd.prog 13 #[.agg #[.int .u8 T.k, .string T.r, .string T.n, .int .i64 T.d, .slice T.A T.sub.length T.c]] w _
  clear hr hC hS
  rcases key with ⟨q, q2, rfl⟩ | ⟨rfl, q, rfl⟩ | ⟨rfl, rfl, rfl⟩
  all_goals (
    go_enter Tryd.func13, Tryd.ntmps13
    go_wp2_with (first
      | (go_at_call 26; have _t := HW2; ((with_reducible refine (HS.out _ HW2.out).mono ?_); rintro u w3 ⟨rfl, hb⟩; have HW3 := Lib.hid (btO HW2.out hb); clear hb))
      | (go_at_call 9; ((with_reducible refine (HC.out _ (Below.refl _ _)).mono ?_); rintro u w2 ⟨rfl, hb⟩; have HW2 := Lib.hid hb; have d0 := cellO hb (row_cell (j := 0) HR.out rfl); have d1 := cellO hb (row_cell (j := 1) HR.out rfl); have d2 := cellO hb (row_cell (j := 2) HR.out rfl); have d3 := cellO hb (row_cell (j := 3) HR.out rfl); have d4 := cellO hb (row_cell (j := 4) HR.out rfl); clear hb)))
    go_ret
    exact ⟨rfl, btO HB1.out (by first | exact HW3.out | exact HW2.out)⟩)
end Go.Proofs.YtnomccgdajcfiaaDoor
/- The law ObservableChecks: the walks. -/
namespace Go.Proofs.YtnomccgdajcfiaaDoor
open Go Go.RowKit Go.BigFrame
structure ChZ (B N q p : Nat) (w0 : World) (T1 T2 : Ex) (ty : TypeId) (w : World) : Prop where
  b : Below B w0 w
  r : RowW B N T1.A (T1.sub.length * 5) w
  t : w.heap[q]? = some (.cells #[.int .u8 T1.k, .string T1.r, .string T1.n, .int .i64 T1.d, .slice T1.A T1.sub.length T1.c] ty (0, 0))
  o : w.heap[p]? = some (.cells #[.int .u8 T2.k, .string T2.r, .string T2.n, .int .i64 T2.d, .slice T2.A T2.sub.length T2.c] ty (0, 0))
  i : T2.In w
theorem ChZ.set {B N q p M : Nat} {w0 w : World} {T1 T2 : Ex} {t : TypeId} (h : ChZ B N q p w0 T1 T2 t w) {g : Nat} (hB : B ≤ g) (hN : g < N) (hq : N ≤ q) (hp : N ≤ p) (hf : T2.Fr M) (hM : N ≤ M) (o : Nat) (v : Value) : ChZ B N q p w0 T1 T2 t (w.setCell ⟨g, o, none⟩ v) :=
  ⟨h.b.setCell (p := ⟨g, o, none⟩) hB v, h.r.set g o v, (Below.heap_setCell w ⟨g, o, none⟩ v q (by show q ≠ g; omega)).trans h.t, (Below.heap_setCell w ⟨g, o, none⟩ v p (by show p ≠ g; omega)).trans h.o, h.i.set ⟨g, o, none⟩ v (hf.av (by show g < M; omega))⟩
set_option maxRecDepth 100000 in
set_option maxHeartbeats 25600000 in
theorem checks_out (X Y : Ex) (s : ByteArray) (gx gy : Bool) (w : World)
    (hgx : ∀ W, Below w.heap.size w W → Calls Tryd.prog 4 #[.agg #[.int .u8 X.k, .string X.r, .string X.n, .int .i64 X.d, .slice X.A X.sub.length X.c]] W (BoolRO gx W))
    (hgy : ∀ W, Below w.heap.size w W → Calls Tryd.prog 4 #[.agg #[.int .u8 Y.k, .string Y.r, .string Y.n, .int .i64 Y.d, .slice Y.A Y.sub.length Y.c]] W (BoolRO gy W))
    (key : (gx = true ∧ True) ∨ (gx = false ∧ gy = true)) :
    Calls Tryd.prog 3 #[.agg #[.int .u8 X.k, .string X.r, .string X.n, .int .i64 X.d, .slice X.A X.sub.length X.c], .agg #[.int .u8 Y.k, .string Y.r, .string Y.n, .int .i64 Y.d, .slice Y.A Y.sub.length Y.c], .string s] w (BoolRO true w) := by
  obtain ⟨w1, hw1, hB, hS⟩ := sm_begin w X.k X.r X.n X.d X.A X.sub.length X.c Y.k Y.r Y.n Y.d Y.A Y.sub.length Y.c 25
  have HB := Lib.hid hB
  have HG := Lib.hid (fun W (hW : Below w1.heap.size w1 W) => hS.below hW)
  have Hgx := Lib.hid (fun W (hW : Below w1.heap.size w1 W) => hgx W (btO hB hW))
  have Hgy := Lib.hid (fun W (hW : Below w1.heap.size w1 W) => hgy W (btO hB hW))
  have HW1 := Lib.hid (Below.refl w1.heap.size w1)
  clear hB hS hgx hgy
  obtain ⟨a0, a1, a2, a3, a4, b0, b1, b2, b3, b4⟩ := HG.out _ HW1.out
  rcases key with ⟨rfl, -⟩ | ⟨rfl, rfl⟩
  all_goals (
    go_enter Tryd.func3, Tryd.ntmps3
    go_wp2_with (first
      | (go_at_call 4; have _t := HW2; ((with_reducible refine (Hgy.out _ HW2.out).mono ?_); rintro u w3 ⟨rfl, hb⟩; clear a0 a1 a2 a3 a4 b0 b1 b2 b3 b4; have HW3 := Lib.hid (btO HW2.out hb); obtain ⟨a0, a1, a2, a3, a4, b0, b1, b2, b3, b4⟩ := HG.out _ HW3.out; clear hb))
      | (go_at_call 4; have _t := HW1; ((with_reducible refine (Hgx.out _ HW1.out).mono ?_); rintro u w2 ⟨rfl, hb⟩; clear a0 a1 a2 a3 a4 b0 b1 b2 b3 b4; have HW2 := Lib.hid (btO HW1.out hb); obtain ⟨a0, a1, a2, a3, a4, b0, b1, b2, b3, b4⟩ := HG.out _ HW2.out; clear hb)))
    go_ret
    exact ⟨rfl, btO HB.out (by first | exact HW3.out | exact HW2.out)⟩)
set_option maxRecDepth 100000 in
set_option maxHeartbeats 25600000 in
theorem checks_main (X Y : Ex) (s : ByteArray) (nb nu tr sb : Bool) (ck sz : Int) (w : World)
    (hgx : ∀ W, Below w.heap.size w W → Calls Tryd.prog 4 #[.agg #[.int .u8 X.k, .string X.r, .string X.n, .int .i64 X.d, .slice X.A X.sub.length X.c]] W (BoolRO false W))
    (hgy : ∀ W, Below w.heap.size w W → Calls Tryd.prog 4 #[.agg #[.int .u8 Y.k, .string Y.r, .string Y.n, .int .i64 Y.d, .slice Y.A Y.sub.length Y.c]] W (BoolRO false W))
    (htw : ∀ W, Below w.heap.size w W → Calls Tryd.prog 5 #[.agg #[.int .u8 X.k, .string X.r, .string X.n, .int .i64 X.d, .slice X.A X.sub.length X.c]] W (TwnR X W))
    (hrt : ∀ W, Below w.heap.size w W → Calls Tryd.prog 18 #[.agg #[.int .u8 X.k, .string X.r, .string X.n, .int .i64 X.d, .slice X.A X.sub.length X.c]] W (TwnR X W))
    (hn1 : ∀ W, Below w.heap.size w W → Calls Tryd.prog 6 #[.string s] W (fun e w' => e = .returned (.bool nb) ∧ Below W.heap.size W w'))
    (hn2 : ∀ W, Below w.heap.size w W → Calls Tryd.prog 7 #[.string s] W (fun e w' => e = .returned (.bool nb) ∧ Below W.heap.size W w'))
    (hc1 : ∀ W, Below w.heap.size w W → Calls Tryd.prog 8 #[.agg #[.int .u8 X.k, .string X.r, .string X.n, .int .i64 X.d, .slice X.A X.sub.length X.c]] W (fun e w' => e = .returned (.int .i64 ck) ∧ Below W.heap.size W w'))
    (hc2 : ∀ W, Below w.heap.size w W → Calls Tryd.prog 9 #[.agg #[.int .u8 X.k, .string X.r, .string X.n, .int .i64 X.d, .slice X.A X.sub.length X.c]] W (fun e w' => e = .returned (.int .i64 ck) ∧ Below W.heap.size W w'))
    (hu1 : ∀ W, Below w.heap.size w W → Calls Tryd.prog 10 #[.agg #[.int .u8 X.k, .string X.r, .string X.n, .int .i64 X.d, .slice X.A X.sub.length X.c]] W (fun e w' => e = .returned (.bool nu) ∧ Below W.heap.size W w'))
    (hu2 : ∀ W, Below w.heap.size w W → Calls Tryd.prog 11 #[.agg #[.int .u8 X.k, .string X.r, .string X.n, .int .i64 X.d, .slice X.A X.sub.length X.c]] W (fun e w' => e = .returned (.bool nu) ∧ Below W.heap.size W w'))
    (ht1 : ∀ W, Below w.heap.size w W → Calls Tryd.prog 12 #[.agg #[.int .u8 X.k, .string X.r, .string X.n, .int .i64 X.d, .slice X.A X.sub.length X.c]] W (fun e w' => e = .returned (.bool tr) ∧ Below W.heap.size W w'))
    (ht2 : ∀ W, Below w.heap.size w W → Calls Tryd.prog 13 #[.agg #[.int .u8 X.k, .string X.r, .string X.n, .int .i64 X.d, .slice X.A X.sub.length X.c]] W (fun e w' => e = .returned (.bool tr) ∧ Below W.heap.size W w'))
    (hz1 : ∀ W, Below w.heap.size w W → Calls Tryd.prog 14 #[.agg #[.int .u8 X.k, .string X.r, .string X.n, .int .i64 X.d, .slice X.A X.sub.length X.c]] W (fun e w' => e = .returned (.int .i64 sz) ∧ Below W.heap.size W w'))
    (hz2 : ∀ W, Below w.heap.size w W → Calls Tryd.prog 15 #[.agg #[.int .u8 X.k, .string X.r, .string X.n, .int .i64 X.d, .slice X.A X.sub.length X.c]] W (fun e w' => e = .returned (.int .i64 sz) ∧ Below W.heap.size W w'))
    (hm1 : ∀ W, Below w.heap.size w W → Calls Tryd.prog 16 #[.agg #[.int .u8 X.k, .string X.r, .string X.n, .int .i64 X.d, .slice X.A X.sub.length X.c], .agg #[.int .u8 Y.k, .string Y.r, .string Y.n, .int .i64 Y.d, .slice Y.A Y.sub.length Y.c]] W (fun e w' => e = .returned (.bool sb) ∧ Below W.heap.size W w'))
    (hm2 : ∀ W, Below w.heap.size w W → Calls Tryd.prog 17 #[.agg #[.int .u8 X.k, .string X.r, .string X.n, .int .i64 X.d, .slice X.A X.sub.length X.c], .agg #[.int .u8 Y.k, .string Y.r, .string Y.n, .int .i64 Y.d, .slice Y.A Y.sub.length Y.c]] W (fun e w' => e = .returned (.bool sb) ∧ Below W.heap.size W w'))
    (hsx : ∀ T' : Ex, T'.er = X.er → ∀ W, Below w.heap.size w W → T'.In W → Calls Tryd.prog 17 #[T'.val, .agg #[.int .u8 X.k, .string X.r, .string X.n, .int .i64 X.d, .slice X.A X.sub.length X.c]] W (BoolRO true W)) :
    Calls Tryd.prog 3 #[.agg #[.int .u8 X.k, .string X.r, .string X.n, .int .i64 X.d, .slice X.A X.sub.length X.c], .agg #[.int .u8 Y.k, .string Y.r, .string Y.n, .int .i64 Y.d, .slice Y.A Y.sub.length Y.c], .string s] w (BoolRO true w) := by
  obtain ⟨w1, hw1, hB, hS⟩ := sm_begin w X.k X.r X.n X.d X.A X.sub.length X.c Y.k Y.r Y.n Y.d Y.A Y.sub.length Y.c 25
  have HB := Lib.hid hB
  have HG := Lib.hid (fun W (hW : Below w1.heap.size w1 W) => hS.below hW)
  have Hgx := Lib.hid (fun W (hW : Below w1.heap.size w1 W) => hgx W (btO hB hW))
  have Hgy := Lib.hid (fun W (hW : Below w1.heap.size w1 W) => hgy W (btO hB hW))
  have Htw := Lib.hid (fun W (hW : Below w1.heap.size w1 W) => htw W (btO hB hW))
  have Hrt := Lib.hid (fun W (hW : Below w1.heap.size w1 W) => hrt W (btO hB hW))
  have Hn1 := Lib.hid (fun W (hW : Below w1.heap.size w1 W) => hn1 W (btO hB hW))
  have Hn2 := Lib.hid (fun W (hW : Below w1.heap.size w1 W) => hn2 W (btO hB hW))
  have Hc1 := Lib.hid (fun W (hW : Below w1.heap.size w1 W) => hc1 W (btO hB hW))
  have Hc2 := Lib.hid (fun W (hW : Below w1.heap.size w1 W) => hc2 W (btO hB hW))
  have Hu1 := Lib.hid (fun W (hW : Below w1.heap.size w1 W) => hu1 W (btO hB hW))
  have Hu2 := Lib.hid (fun W (hW : Below w1.heap.size w1 W) => hu2 W (btO hB hW))
  have Ht1 := Lib.hid (fun W (hW : Below w1.heap.size w1 W) => ht1 W (btO hB hW))
  have Ht2 := Lib.hid (fun W (hW : Below w1.heap.size w1 W) => ht2 W (btO hB hW))
  have Hz1 := Lib.hid (fun W (hW : Below w1.heap.size w1 W) => hz1 W (btO hB hW))
  have Hz2 := Lib.hid (fun W (hW : Below w1.heap.size w1 W) => hz2 W (btO hB hW))
  have Hm1 := Lib.hid (fun W (hW : Below w1.heap.size w1 W) => hm1 W (btO hB hW))
  have Hm2 := Lib.hid (fun W (hW : Below w1.heap.size w1 W) => hm2 W (btO hB hW))
  have HW1 := Lib.hid (Below.refl w1.heap.size w1)
  have Hsx := Lib.hid (fun T' he W (hW : Below w1.heap.size w1 W) => hsx T' he W (btO hB hW))
  clear hsx hB hS hgx hgy htw hrt hn1 hn2 hc1 hc2 hu1 hu2 ht1 ht2 hz1 hz2 hm1 hm2
  obtain ⟨a0, a1, a2, a3, a4, b0, b1, b2, b3, b4⟩ := HG.out _ HW1.out
  go_enter Tryd.func3, Tryd.ntmps3
  go_wp2_with (first
    | (go_at_call 5; have _t := HW3; ((with_reducible refine (Htw.out _ HW3.out).mono ?_); rintro u w4 ⟨T1, rfl, hi, he, -, hr, hb⟩; clear a0 a1 a2 a3 a4 b0 b1 b2 b3 b4; have HW4 := Lib.hid (btO HW3.out hb); have HI1 := Lib.hid hi; have HE1 := Lib.hid he; have HR1 := Lib.hid hr; have HB1 := Lib.hid hb; clear hi he hr hb))
    | (go_at_call 4; have _t := HW2; ((with_reducible refine (Hgy.out _ HW2.out).mono ?_); rintro u w3 ⟨rfl, hb⟩; clear a0 a1 a2 a3 a4 b0 b1 b2 b3 b4; have HW3 := Lib.hid (btO HW2.out hb); obtain ⟨a0, a1, a2, a3, a4, b0, b1, b2, b3, b4⟩ := HG.out _ HW3.out; clear hb))
    | (go_at_call 4; have _t := HW1; ((with_reducible refine (Hgx.out _ HW1.out).mono ?_); rintro u w2 ⟨rfl, hb⟩; clear a0 a1 a2 a3 a4 b0 b1 b2 b3 b4; have HW2 := Lib.hid (btO HW1.out hb); obtain ⟨a0, a1, a2, a3, a4, b0, b1, b2, b3, b4⟩ := HG.out _ HW2.out; clear hb)))
  have HR7 := Lib.hid (heap_alloc_new w4 (.cells #[.int .u8 T1.k, .string T1.r, .string T1.n, .int .i64 T1.d, .slice T1.A T1.sub.length T1.c] 25))
  have HW5 := Lib.hid (btO HW4.out (belO w4 (.cells #[.int .u8 T1.k, .string T1.r, .string T1.n, .int .i64 T1.d, .slice T1.A T1.sub.length T1.c] 25)))
  have HI5 := Lib.hid (HI1.out.below (belO w4 (.cells #[.int .u8 T1.k, .string T1.r, .string T1.n, .int .i64 T1.d, .slice T1.A T1.sub.length T1.c] 25)))
  have HQ5 := Lib.hid (belO w4 (.cells #[.int .u8 T1.k, .string T1.r, .string T1.n, .int .i64 T1.d, .slice T1.A T1.sub.length T1.c] 25))
  clear hw1
  generalize w4.alloc (.cells #[.int .u8 T1.k, .string T1.r, .string T1.n, .int .i64 T1.d, .slice T1.A T1.sub.length T1.c] 25) = w5 at *
  have Khn1 : Hid (∀ z : Bel w5, Calls Tryd.prog 6 #[.string s] z.1 (fun e w2 => e = .returned (.bool nb) ∧ ∃ z2 : Bel w5, w2 = z2.1)) := fun z => Bel.calls (fun W hW => Hn1.out W (btO HW5.out hW)) z
  have Khn2 : Hid (∀ z : Bel w5, Calls Tryd.prog 7 #[.string s] z.1 (fun e w2 => e = .returned (.bool nb) ∧ ∃ z2 : Bel w5, w2 = z2.1)) := fun z => Bel.calls (fun W hW => Hn2.out W (btO HW5.out hW)) z
  have Khc1 : Hid (∀ z : Bel w5, Calls Tryd.prog 8 #[.agg #[.int .u8 X.k, .string X.r, .string X.n, .int .i64 X.d, .slice X.A X.sub.length X.c]] z.1 (fun e w2 => e = .returned (.int .i64 ck) ∧ ∃ z2 : Bel w5, w2 = z2.1)) := fun z => Bel.calls (fun W hW => Hc1.out W (btO HW5.out hW)) z
  have Khc2 : Hid (∀ z : Bel w5, Calls Tryd.prog 9 #[.agg #[.int .u8 X.k, .string X.r, .string X.n, .int .i64 X.d, .slice X.A X.sub.length X.c]] z.1 (fun e w2 => e = .returned (.int .i64 ck) ∧ ∃ z2 : Bel w5, w2 = z2.1)) := fun z => Bel.calls (fun W hW => Hc2.out W (btO HW5.out hW)) z
  have Khu1 : Hid (∀ z : Bel w5, Calls Tryd.prog 10 #[.agg #[.int .u8 X.k, .string X.r, .string X.n, .int .i64 X.d, .slice X.A X.sub.length X.c]] z.1 (fun e w2 => e = .returned (.bool nu) ∧ ∃ z2 : Bel w5, w2 = z2.1)) := fun z => Bel.calls (fun W hW => Hu1.out W (btO HW5.out hW)) z
  have Khu2 : Hid (∀ z : Bel w5, Calls Tryd.prog 11 #[.agg #[.int .u8 X.k, .string X.r, .string X.n, .int .i64 X.d, .slice X.A X.sub.length X.c]] z.1 (fun e w2 => e = .returned (.bool nu) ∧ ∃ z2 : Bel w5, w2 = z2.1)) := fun z => Bel.calls (fun W hW => Hu2.out W (btO HW5.out hW)) z
  have Kht1 : Hid (∀ z : Bel w5, Calls Tryd.prog 12 #[.agg #[.int .u8 X.k, .string X.r, .string X.n, .int .i64 X.d, .slice X.A X.sub.length X.c]] z.1 (fun e w2 => e = .returned (.bool tr) ∧ ∃ z2 : Bel w5, w2 = z2.1)) := fun z => Bel.calls (fun W hW => Ht1.out W (btO HW5.out hW)) z
  have Kht2 : Hid (∀ z : Bel w5, Calls Tryd.prog 13 #[.agg #[.int .u8 X.k, .string X.r, .string X.n, .int .i64 X.d, .slice X.A X.sub.length X.c]] z.1 (fun e w2 => e = .returned (.bool tr) ∧ ∃ z2 : Bel w5, w2 = z2.1)) := fun z => Bel.calls (fun W hW => Ht2.out W (btO HW5.out hW)) z
  obtain ⟨ga0, ga1, ga2, ga3, ga4, gb0, gb1, gb2, gb3, gb4⟩ := HG.out _ HW5.out
  have za0 := fun z : Bel w5 => z.cell ga0
  have za1 := fun z : Bel w5 => z.cell ga1
  have za2 := fun z : Bel w5 => z.cell ga2
  have za3 := fun z : Bel w5 => z.cell ga3
  have za4 := fun z : Bel w5 => z.cell ga4
  have zb0 := fun z : Bel w5 => z.cell gb0
  have zb1 := fun z : Bel w5 => z.cell gb1
  have zb2 := fun z : Bel w5 => z.cell gb2
  have zb3 := fun z : Bel w5 => z.cell gb3
  have zb4 := fun z : Bel w5 => z.cell gb4
  clear ga0 ga1 ga2 ga3 ga4 gb0 gb1 gb2 gb3 gb4
  refine wp_region_bel (by kernel_rfl) (by kernel_rfl) ?_
  repeat (go_big_quiet_step (first
    | (go_at_call 6; with_reducible exact Khn1.out _)
    | (go_at_call 7; with_reducible exact Khn2.out _)
    | (go_at_call 8; with_reducible exact Khc1.out _)
    | (go_at_call 9; with_reducible exact Khc2.out _)
    | (go_at_call 10; with_reducible exact Khu1.out _)
    | (go_at_call 11; with_reducible exact Khu2.out _)
    | (go_at_call 12; with_reducible exact Kht1.out _)
    | (go_at_call 13; with_reducible exact Kht2.out _)))
  refine wpQuiet_nil ?_
  rintro _ ⟨zz, rfl⟩
  have HW6 := Lib.hid (btO HW5.out zz.2)
  have HQ6 := Lib.hid zz.2
  clear za0 za1 za2 za3 za4 zb0 zb1 zb2 zb3 zb4 Khn1 Khn2 Khc1 Khc2 Khu1 Khu2 Kht1 Kht2
  generalize zz.1 = w6 at *
  clear zz
  go_wp2_with (fail)
  have Khz1 : Hid (∀ z : Bel w6, Calls Tryd.prog 14 #[.agg #[.int .u8 X.k, .string X.r, .string X.n, .int .i64 X.d, .slice X.A X.sub.length X.c]] z.1 (fun e w2 => e = .returned (.int .i64 sz) ∧ ∃ z2 : Bel w6, w2 = z2.1)) := fun z => Bel.calls (fun W hW => Hz1.out W (btO HW6.out hW)) z
  have Khz2 : Hid (∀ z : Bel w6, Calls Tryd.prog 15 #[.agg #[.int .u8 X.k, .string X.r, .string X.n, .int .i64 X.d, .slice X.A X.sub.length X.c]] z.1 (fun e w2 => e = .returned (.int .i64 sz) ∧ ∃ z2 : Bel w6, w2 = z2.1)) := fun z => Bel.calls (fun W hW => Hz2.out W (btO HW6.out hW)) z
  have Khm1 : Hid (∀ z : Bel w6, Calls Tryd.prog 16 #[.agg #[.int .u8 X.k, .string X.r, .string X.n, .int .i64 X.d, .slice X.A X.sub.length X.c], .agg #[.int .u8 Y.k, .string Y.r, .string Y.n, .int .i64 Y.d, .slice Y.A Y.sub.length Y.c]] z.1 (fun e w2 => e = .returned (.bool sb) ∧ ∃ z2 : Bel w6, w2 = z2.1)) := fun z => Bel.calls (fun W hW => Hm1.out W (btO HW6.out hW)) z
  have Khm2 : Hid (∀ z : Bel w6, Calls Tryd.prog 17 #[.agg #[.int .u8 X.k, .string X.r, .string X.n, .int .i64 X.d, .slice X.A X.sub.length X.c], .agg #[.int .u8 Y.k, .string Y.r, .string Y.n, .int .i64 Y.d, .slice Y.A Y.sub.length Y.c]] z.1 (fun e w2 => e = .returned (.bool sb) ∧ ∃ z2 : Bel w6, w2 = z2.1)) := fun z => Bel.calls (fun W hW => Hm2.out W (btO HW6.out hW)) z
  have Kst : Hid (∀ z : Bel w6, Calls Tryd.prog 17 #[T1.val, .agg #[.int .u8 X.k, .string X.r, .string X.n, .int .i64 X.d, .slice X.A X.sub.length X.c]] z.1 (fun e w2 => e = .returned (.bool true) ∧ ∃ z2 : Bel w6, w2 = z2.1)) := fun z => Bel.calls (fun W hW => Hsx.out T1 HE1.out W (btO HW6.out hW) (HI5.out.below (btO HQ6.out hW))) z
  have zt0 := fun z : Bel w6 => z.cell (cellO HQ6.out (row_cell (j := 0) HR7.out rfl))
  have zt1 := fun z : Bel w6 => z.cell (cellO HQ6.out (row_cell (j := 1) HR7.out rfl))
  have zt2 := fun z : Bel w6 => z.cell (cellO HQ6.out (row_cell (j := 2) HR7.out rfl))
  have zt3 := fun z : Bel w6 => z.cell (cellO HQ6.out (row_cell (j := 3) HR7.out rfl))
  have zt4 := fun z : Bel w6 => z.cell (cellO HQ6.out (row_cell (j := 4) HR7.out rfl))
  obtain ⟨ga0, ga1, ga2, ga3, ga4, gb0, gb1, gb2, gb3, gb4⟩ := HG.out _ HW6.out
  have za0 := fun z : Bel w6 => z.cell ga0
  have za1 := fun z : Bel w6 => z.cell ga1
  have za2 := fun z : Bel w6 => z.cell ga2
  have za3 := fun z : Bel w6 => z.cell ga3
  have za4 := fun z : Bel w6 => z.cell ga4
  have zb0 := fun z : Bel w6 => z.cell gb0
  have zb1 := fun z : Bel w6 => z.cell gb1
  have zb2 := fun z : Bel w6 => z.cell gb2
  have zb3 := fun z : Bel w6 => z.cell gb3
  have zb4 := fun z : Bel w6 => z.cell gb4
  clear ga0 ga1 ga2 ga3 ga4 gb0 gb1 gb2 gb3 gb4
  refine wp_region_bel (by kernel_rfl) (by kernel_rfl) ?_
  repeat (go_big_quiet_step (first
    | (go_at_call 14; with_reducible exact Khz1.out _)
    | (go_at_call 15; with_reducible exact Khz2.out _)
    | (go_at_call 16; with_reducible exact Khm1.out _)
    | (go_at_call 17; with_reducible exact Khm2.out _)
    | (go_at_call 17; with_reducible exact Kst.out _)))
  refine wpQuiet_nil ?_
  rintro _ ⟨zz, rfl⟩
  have HW7 := Lib.hid (btO HW6.out zz.2)
  have HQ7 := Lib.hid (btO HQ6.out zz.2)
  clear za0 za1 za2 za3 za4 zb0 zb1 zb2 zb3 zb4 Khz1 Khz2 Khm1 Khm2 zt0 zt1 zt2 zt3 zt4 Kst
  generalize zz.1 = w7 at *
  clear zz
  obtain ⟨a0, a1, a2, a3, a4, -, -, -, -, -⟩ := HG.out _ HW7.out
  go_wp2_with (go_at_call 18; ((with_reducible refine (Hrt.out _ HW7.out).mono ?_); rintro u w8 ⟨T2, rfl, hi, he, hf, -, hb⟩; have HW8 := Lib.hid (btO HW7.out hb); have HI2 := Lib.hid hi; have HE2 := Lib.hid he; have HF2 := Lib.hid hf; have HB2 := Lib.hid hb; clear a0 a1 a2 a3 a4 hi he hf hb))
  have n1 : w4.heap.size ≤ w5.heap.size := HQ5.out.size
  have n2 : w5.heap.size ≤ w7.heap.size := HQ7.out.size
  have n3 : w7.heap.size ≤ w8.heap.size := HB2.out.size
  have HN := Lib.hid (show w4.heap.size ≤ w7.heap.size ∧ w4.heap.size ≤ w8.heap.size from ⟨by omega, by omega⟩)
  have HX9 := Lib.hid (btO HQ7.out (btO HB2.out (belO w8 (.cells #[.int .u8 T2.k, .string T2.r, .string T2.n, .int .i64 T2.d, .slice T2.A T2.sub.length T2.c] 25))))
  have HR9 := Lib.hid (heap_alloc_new w8 (.cells #[.int .u8 T2.k, .string T2.r, .string T2.n, .int .i64 T2.d, .slice T2.A T2.sub.length T2.c] 25))
  have HI9 := Lib.hid (HI2.out.below (belO w8 (.cells #[.int .u8 T2.k, .string T2.r, .string T2.n, .int .i64 T2.d, .slice T2.A T2.sub.length T2.c] 25)))
  have HW9 := Lib.hid (btO HW8.out (belO w8 (.cells #[.int .u8 T2.k, .string T2.r, .string T2.n, .int .i64 T2.d, .slice T2.A T2.sub.length T2.c] 25)))
  clear n1 n2 n3
  generalize w8.alloc (.cells #[.int .u8 T2.k, .string T2.r, .string T2.n, .int .i64 T2.d, .slice T2.A T2.sub.length T2.c] 25) = w9 at *
  have HZ0 : Hid (ChZ w3.heap.size w4.heap.size w4.heap.size w8.heap.size w9 T1 T2 25 w9) := ⟨Below.refl _ _, (HR1.out.below HQ5.out).below HX9.out, (HX9.out.block _ (lt_of_block HR7.out)).trans HR7.out, HR9.out, HI9.out⟩
  go_loopw [10] (fun i wr => ∃ (k : Nat), k ≤ T1.sub.length ∧ i = .int .i64 k ∧ Hid (ChZ w3.heap.size w4.heap.size w4.heap.size w8.heap.size w9 T1 T2 25 wr)) (fun i _ => T1.sub.length - (intOf i).toNat)
  case atStart => exact ⟨0, by omega, rfl, HZ0.out⟩
  case round =>
    obtain ⟨k, hk, rfl, HZ⟩ := hrel
    have hl63 : T1.sub.length ≤ 140737488351232 := HI1.out.bd.c1
    have t4 := row_cell (j := 4) HZ.out.t rfl
    by_cases hlt : k < T1.sub.length
    · obtain ⟨g, hg, hgB, hgN, ⟨u, hu⟩, hf⟩ := HZ.out.r.at (i := k * 5) (by omega)
      have HGB := Lib.hid hgB
      have HGN := Lib.hid hgN
      have k0 : (0 : Int) ≤ (k : Int) := by omega
      have k1 : (k : Int) < (T1.sub.length : Int) := by omega
      rw [hg] at t4
      clear hgB hgN hg
      go_wp2_with (fail)
      go_roundw
      all_goals first
        | exact ⟨k + 1, by omega, by go_num, HZ.out.set HGB.out HGN.out (Nat.le_refl _) HN.out.2 HF2.out HN.out.1 _ _⟩
        | (simp [intOf]; omega)
    · obtain rfl : k = T1.sub.length := by omega
      have hb3 : w1.heap.size ≤ w3.heap.size := HW3.out.size
      have HWf := Lib.hid (HW9.out.trans (HZ.out.b.mono hb3))
      obtain ⟨a0, a1, a2, a3, a4, -, -, -, -, -⟩ := HG.out _ HWf.out
      have o0 := row_cell (j := 0) HZ.out.o rfl
      have o1 := row_cell (j := 1) HZ.out.o rfl
      have o2 := row_cell (j := 2) HZ.out.o rfl
      have o3 := row_cell (j := 3) HZ.out.o rfl
      have o4 := row_cell (j := 4) HZ.out.o rfl
      clear hb3
      go_wp2_with (go_at_call 17; ((with_reducible refine (Hsx.out T2 HE2.out _ HWf.out HZ.out.i).mono ?_); rintro u w20 ⟨rfl, hb⟩; have HW20 := Lib.hid (btO HWf.out hb); clear hb))
      go_ret
      exact ⟨rfl, btO HB.out HW20.out⟩
end Go.Proofs.YtnomccgdajcfiaaDoor

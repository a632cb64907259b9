/- Layer 7: two rows of numbers that grow in turn, known apart. -/
import Derived.Test.YtalnfbgaiegicaaMoJ
import Derived.Test.YtalnfbgaiegicaaMoD
import Derived.Test.YtalnfbgaiegicaaMpU
namespace Go.Proofs.Ytalnfbgaiegicaa
open Go Go.RowKit

/-- As run_append_own, and: the row keeps its block or gets a new one. -/
theorem run_append_ownB {P : Program} (w : World) (base : Nat) (t ty e : TypeId) (i : TypeInfo) (z : Value) (size bytes : Nat) (ht : P.underlying t = some (.slice e)) (hi : P.info? e = some i) (hz : i.zero = some z)
    (hsize : i.size = size) (hby : i.bytes = bytes) (hzs : z.cells.size = size) (hsz : 0 < size)
    (v : Value) (n : Nat) (xs : List Value) (hown : w.ownsRow base e size v n xs)
    (a : Addr) (m c : Nat) (news : List Value) (hl : news.length = m * size) (hnews : ∀ j u, news[j]? = some u → w.cell? (a.add j) = some u) (h1 : ∀ u ∈ news, u.oneCell' = true) (hm : 0 < m)
    (h63 : n + m ≤ maxLen) (hbytes : (n + m) * bytes ≤ 140737488355328) (hbase : base ≤ w.heap.size) :
    ∃ v' w', (Builtin.append_ #[t, t] ty #[v, .slice (some a) m c]).run P w = .ok v' w' ∧ w'.ownsRow base e size v' (n + m) (xs ++ news) ∧ w.grownBy w' v.ownBlock ∧ (v'.ownBlock = v.ownBlock ∨ v'.ownBlock = some w.heap.size) := by
  obtain ⟨v', w', hr, h2, h3, -⟩ := run_append_own (P := P) w base t ty e i z size bytes ht hi hz hsize hby hzs hsz v n xs hown a m c news hl hnews h1 h63 hbytes hbase
  refine ⟨v', w', hr, h2, h3, ?_⟩
  subst hsize
  subst hby
  have hm63 : n + m ≤ 9223372036854775807 := by simp only [maxLen] at h63; omega
  rcases hown.2 with ⟨rfl, rfl⟩ | ⟨g, cap, cur, rfl, hbg, hg, hnc, hcm, hcs, htake⟩
  · have hr2 := run_append_nil (P := P) w t ty e i z ht hi hz a m c news hl hnews (by omega) (by omega) (by have hb := hbytes; simp only [Nat.zero_add] at hb; omega)
    rw [hr] at hr2
    injection hr2 with e1 e2
    rw [e1]; exact .inr rfl
  · by_cases hroom : n + m ≤ cap
    · have hfit : n * i.size + news.length ≤ cur.size := by rw [hl, hcs, ← Nat.add_mul]; exact Nat.mul_le_mul_right _ hroom
      have hr2 := run_append_room (P := P) w t ty e i ht hi g n cap cur hg a m c news hl hnews h1 hroom hfit
      rw [hr] at hr2
      injection hr2 with e1 e2
      rw [e1]; exact .inl rfl
    · have holds : ∀ j u, xs[j]? = some u → w.cell? ((⟨g, 0, none⟩ : Addr).add j) = some u := hown.cells (g := g) rfl
      have hr2 := run_append_grow (P := P) w t ty e i z ht hi hz ⟨g, 0, none⟩ n cap xs hown.1 holds a m c news hl hnews (by omega) (by omega) (growslice_fits (by omega) hbytes)
      rw [hr] at hr2
      injection hr2 with e1 e2
      rw [e1]; exact .inr rfl
theorem wpList_append_ownB {P : Program} {w : World} {ops : Array Oper} {rest : List Oper} {o : Oper} {a : Act} {Q : Exit → Act → World → Prop} (hgd : o.guard = none) (s x : Operand) (t : TypeId)
    (ho : o.op = .call { callee := .builtin .append, args := #[s, x], argTypes := #[t, t] })
    (base : Nat) (e : TypeId) (i : TypeInfo) (z : Value) (size bytes : Nat) (ht : P.underlying t = some (.slice e)) (hi : P.info? e = some i) (hz : i.zero = some z)
    (hsize : i.size = size) (hby : i.bytes = bytes) (hzs : z.cells.size = size) (hsz : 0 < size)
    (v : Value) (n : Nat) (xs : List Value) (hs : a.eval s = v) (hown : w.ownsRow base e size v n xs)
    (ad : Addr) (m c : Nat) (news : List Value) (hx : a.eval x = .slice (some ad) m c) (hl : news.length = m * size) (hnews : ∀ j u, news[j]? = some u → w.cell? (ad.add j) = some u) (h1 : ∀ u ∈ news, u.oneCell' = true) (hm : 0 < m)
    (h63 : n + m ≤ maxLen) (hbytes : (n + m) * bytes ≤ 140737488355328) (hbase : base ≤ w.heap.size)
    (h : ∀ v' w', w'.ownsRow base e size v' (n + m) (xs ++ news) → w.grownBy w' v.ownBlock → (v'.ownBlock = v.ownBlock ∨ v'.ownBlock = some w.heap.size) → wpList P ops Q rest (a.put o.dst v') w') : wpList P ops Q (o :: rest) a w :=
  wpList_plain hgd fun K hK => by
    obtain ⟨v', w', hr, h2, h3, h4⟩ := run_append_ownB (P := P) w base t o.type e i z size bytes ht hi hz hsize hby hzs hsz v n xs hown ad m c news hl hnews h1 hm h63 hbytes hbase
    unfold Oper.wp execOp
    simp only [ho, resolve, invoke, builtin, Sem.run_bind, Sem.run_pure, Result.andThen_ok, List.map_toArray, List.map_cons, List.map_nil, hs, hx, hr]
    exact hK _ _ (h v' w' h2 h3 h4)
/-- Two rows, apart. -/
structure TwoR (w : World) (v u : Value) (n k : Nat) (xs ys : List Int) (wr : World) : Prop where
  l : wr.ownsRow w.heap.size 3 1 v n (xs.map encM)
  r : wr.ownsRow w.heap.size 3 1 u k (ys.map encM)
  ne : v.ownBlock = none ∨ v.ownBlock ≠ u.ownBlock
  bel : Below w.heap.size w wr
theorem TwoR.swap {w : World} {v u : Value} {n k : Nat} {xs ys : List Int} {wr : World} (h : TwoR w v u n k xs ys wr) : TwoR w u v k n ys xs wr := by
  refine ⟨h.r, h.l, ?_, h.bel⟩
  rcases h.ne with g | g
  · rw [g]; cases u.ownBlock <;> simp
  · exact .inr (fun e => g e.symm)
theorem TwoR.nil (w : World) : TwoR w (.slice none 0 0) (.slice none 0 0) 0 0 [] [] w := ⟨World.ownsRow_nil _ _ _ _, World.ownsRow_nil _ _ _ _, .inl rfl, Below.refl _ _⟩
theorem TwoR.form {w : World} {v u : Value} {n k : Nat} {xs ys : List Int} {wr : World} (h : TwoR w v u n k xs ys wr) (hn : 0 < n) : ∃ g cap, v = .slice (some ⟨g, 0, none⟩) n cap ∧ w.heap.size ≤ g ∧ g < wr.heap.size ∧ n ≤ cap ∧ cap ≤ maxLen := by
  rcases h.l.2 with ⟨-, h0⟩ | ⟨g, cap, cur, rfl, hb, hh, hnc, hcm, -⟩
  · omega
  · exact ⟨g, cap, rfl, hb, lt_of_block hh, hnc, hcm⟩
theorem TwoR.drewN {w : World} {v u : Value} {n k : Nat} {xs ys : List Int} {wr : World} (h : TwoR w v u n k xs ys wr) (q : Nat) : TwoR w v u n k xs ys (wr.drewN q) := ⟨h.l, h.r, h.ne, dnM h.bel q⟩
theorem TwoR.setL {w : World} {u : Value} {g cap n k : Nat} {xs ys : List Int} {wr : World} (h : TwoR w (.slice (some ⟨g, 0, none⟩) n cap) u n k xs ys wr) (j : Nat) (z : Int) : TwoR w (.slice (some ⟨g, 0, none⟩) n cap) u n k (xs.set j z) ys (wr.setCell ⟨g, j, none⟩ (.int .i64 z)) := by
  refine ⟨own_setM h.l j z, ?_, h.ne, h.bel.setCell (p := ⟨g, j, none⟩) (own_ltM h.l).1 _⟩
  refine ownsRow_setCell_other h.r ?_ _
  rcases h.ne with e | e
  · cases e
  · exact fun e2 => e e2.symm
theorem wpList_app2 {P : Program} {ops : Array Oper} {rest : List Oper} {o : Oper} {a : Act} {Q : Exit → Act → World → Prop} {w wr : World} {v u : Value} {n k : Nat} {xs ys : List Int} (h2 : TwoR w v u n k xs ys wr) (x : Int) (hgd : o.guard = none) (s y : Operand) (t : TypeId)
    (ho : o.op = .call { callee := .builtin .append, args := #[s, y], argTypes := #[t, t] })
    (i : TypeInfo) (z : Value) (ht : P.underlying t = some (.slice 3)) (hi : P.info? 3 = some i) (hz : i.zero = some z)
    (hsize : i.size = 1) (hby : i.bytes = 8) (hzs : z.cells.size = 1)
    (hs : a.eval s = v) (hx : a.eval y = .slice (some ⟨wr.heap.size, 0, none⟩) 1 1) (hn : n ≤ 1000000)
    (h : ∀ v' w', TwoR w v' u (n + 1) k (xs ++ [x]) ys w' → wpList P ops Q rest (a.put o.dst v') w') : wpList P ops Q (o :: rest) a (wr.alloc (.cells #[.int .i64 x] 3)) := by
  have hbase := h2.bel.size
  refine wpList_append_ownB (w := wr.alloc (.cells #[.int .i64 x] 3)) hgd s y t ho w.heap.size 3 i z 1 8 ht hi hz hsize hby hzs (by decide) v n (xs.map encM) hs (h2.l.alloc _) ⟨wr.heap.size, 0, none⟩ 1 1 [.int .i64 x] hx rfl ?_ ?_ (by omega) (by unfold maxLen; omega) (by omega) (by simp; omega) ?_
  · intro j u hj
    match j, hj with
    | 0, hj =>
      obtain rfl : .int .i64 x = u := by simpa using hj
      simp [Addr.add]
  · intro u hu
    obtain rfl : u = .int .i64 x := by simpa using hu
    rfl
  · intro v' w' g1 g2 g3
    refine h v' w' ⟨?_, ?_, ?_, ?_⟩
    · rw [List.map_append]; exact g1
    · refine (h2.r.alloc _).kept g2 ?_
      rcases h2.ne with e | e
      · rw [e]; cases u.ownBlock <;> simp
      · exact .inr (fun e2 => e e2.symm)
    · rcases g3 with e | e
      · rw [e]; exact h2.ne
      · right
        rw [e]
        intro e2
        have := (h2.r.lt _ e2.symm).2
        simp at this
        omega
    · exact (h2.bel.alloc hbase _).grown g2 (by simp; omega) fun k hk => (h2.l.lt k hk).1
end Go.Proofs.Ytalnfbgaiegicaa

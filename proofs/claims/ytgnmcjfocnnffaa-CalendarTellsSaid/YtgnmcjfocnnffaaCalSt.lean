/- Layer 4: an append to a row of the call's own, as one step of a region that draws its order. -/
import Derived.Test.YtgnmcjfocnnffaaCalU
import Derived.Deep.RegionLaw
namespace Go.Proofs.Ytgnmcjfocnnffaa
open Go Go.RowKit

theorem step_appZ {P : Program} {ops : Array Oper} {o : Oper} {a : Act} {w : World} {K : Act → World → Prop} {Q : Exit → Act → World → Prop} {E : Prop}
    (hg : o.guard = none) (s x : Operand) (t : TypeId) (hop : o.op = Op.call { callee := Callee.builtin Builtin.append, args := #[s, x], argTypes := #[t, t] })
    (e : TypeId) (i : TypeInfo) (z : Value) (bytes : Nat) (h1 : P.underlying t = some (.slice e)) (h2 : P.info? e = some i) (h3 : i.zero = some z) (h4 : i.size = 1) (h5 : i.bytes = bytes) (h6 : z.cells.size = 1)
    (base : Nat) (v : Value) (n : Nat) (xs : List Value) (hown : w.ownsRow base e 1 v n xs) (hs : a.eval s = v)
    (A : Option Addr) (ys : List Int) (m c : Nat) (hm : ys.length = m) (hS : HsA w A ys) (hA0 : A = none → c = 0) (hx : a.eval x = .slice A m c)
    (b1 : n + m ≤ maxLen) (b2 : (n + m) * bytes ≤ 140737488355328) (hbase : base ≤ w.heap.size)
    (hK : ∀ v' w', w'.ownsRow base e 1 v' (n + m) (xs ++ ys.map encZ) → Below base w w' → (∀ k, k < w.heap.size → v.ownBlock ≠ some k → w'.heap[k]? = w.heap[k]?) → K (a.put o.dst v') w') :
    if Region.wanted o (yielded ops a.tmps) = true then Oper.wp P o a w K Q else E := by
  have hw : Region.wanted o (yielded ops a.tmps) = true := by simp [Region.wanted, hg]
  rw [if_pos hw]
  cases A with
  | none =>
    have h0 : ys = [] := by
      rcases hS with h | ⟨b, o, h1, _⟩
      · exact h
      · cases h1
    subst h0
    have hm0 : m = 0 := by simpa using hm.symm
    subst hm0
    rw [hA0 rfl] at hx
    have hrun := run_append_owned_none (P := P) (w := w) base t o.type e i 1 h1 h2 v n xs hown
    unfold Oper.wp
    simp [execOp, hop, resolve, invoke, builtin, hs, hx, hrun, Result.andThen]
    exact hK v w (by simpa using hown) (Below.refl _ _) (fun _ _ _ => rfl)
  | some ad =>
    have hnews : ∀ j u, (ys.map encZ)[j]? = some u → w.cell? (ad.add j) = some u := by
      intro j u hj
      rw [List.getElem?_map] at hj
      cases hyj : ys[j]? with
      | none => rw [hyj] at hj; cases hj
      | some y =>
        rw [hyj] at hj
        have hlt := (List.getElem?_eq_some_iff.1 hyj).1
        obtain ⟨b, o', h1, _, h3⟩ := hS.get hlt
        injection h1 with h1
        subst h1
        have : (⟨b, o', none⟩ : Addr).add j = ⟨b, o' + j, none⟩ := by unfold Addr.add; split <;> simp_all
        rw [this, h3 j hlt, List.getD_eq_getElem?_getD, hyj]; exact hj
    obtain ⟨v', w', hrun, r1, r2, _⟩ := run_append_own (P := P) (w := w) base t o.type e i z 1 bytes h1 h2 h3 h4 h5 h6 (by decide) v n xs hown ad m c (ys.map encZ) (by simp [hm]) hnews
      (by intro u hu; obtain ⟨y, _, rfl⟩ := List.mem_map.1 hu; rfl) b1 b2 hbase
    unfold Oper.wp
    simp [execOp, hop, resolve, invoke, builtin, hs, hx, hrun, Result.andThen]
    exact hK v' w' r1 ((Below.refl _ _).grown r2 hbase fun k hk => (hown.lt k hk).1) (fun k hk hne => r2.block k hk hne.symm)
theorem own_set_ty {w : World} {base : Nat} {e : TypeId} {size : Nat} {v : Value} {n : Nat} {xs : List Value} (h : w.ownsRow base e size v n xs) {p : Addr} {cs : Array Value} {t : TypeId} {fr : Nat × Nat} (hp : w.heap[p.block]? = some (.cells cs t fr)) (ht : t ≠ e) (u : Value) : (w.setCell p u).ownsRow base e size v n xs := by
  refine ⟨h.1, ?_⟩
  rcases h.2 with h0 | ⟨g, cap, cur, hv, hg, hh, r⟩
  · exact .inl h0
  · refine .inr ⟨g, cap, cur, hv, hg, (Below.heap_setCell w p u g ?_).trans hh, r⟩
    rintro rfl
    rw [hh] at hp
    injection hp with hp
    injection hp with _ h2 _
    exact ht h2.symm
/-- The copy of a calendar that a law makes, its box laid first. -/
theorem was_set {d w' : World} {S Bx : Nat} {A : Option Addr} {c : Nat} {we : Int} {hs : List Int} (hown : w'.ownsRow S 3 1 (.slice A hs.length c) hs.length (hs.map encZ)) (hbx : w'.heap[Bx]? = some (.cells #[.int .u8 0, .slice none 0 0] 24 (0, 0))) (hb : Below S d w') (hS : S ≤ Bx) :
    CalAt ((w'.setCell ⟨Bx, 0, none⟩ (.int .u8 we)).setCell ⟨Bx, 1, none⟩ (.slice A hs.length c)) Bx we A c hs ∧ Below S d ((w'.setCell ⟨Bx, 0, none⟩ (.int .u8 we)).setCell ⟨Bx, 1, none⟩ (.slice A hs.length c)) := by
  have h1 := heap_setCell_same w' Bx 0 _ _ (.int .u8 we) hbx
  have h2 := heap_setCell_same _ Bx 1 _ _ (.slice A hs.length c) h1
  have o1 := own_set_ty hown (p := ⟨Bx, 0, none⟩) hbx (by decide) (.int .u8 we)
  have o2 := own_set_ty o1 (p := ⟨Bx, 1, none⟩) h1 (by decide) (.slice A hs.length c)
  obtain ⟨A', c', e, _, hh, _, _, _⟩ := HsA.of_own o2
  obtain ⟨rfl, rfl⟩ : A = A' ∧ c = c' := by injection e with e1 e2 e3; exact ⟨e1, e3⟩
  exact ⟨⟨h2, hh⟩, (hb.setCell (p := ⟨Bx, 0, none⟩) hS _).setCell (p := ⟨Bx, 1, none⟩) hS _⟩
end Go.Proofs.Ytgnmcjfocnnffaa

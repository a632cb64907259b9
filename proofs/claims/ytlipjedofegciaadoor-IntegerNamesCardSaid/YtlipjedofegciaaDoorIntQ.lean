/- The reference of layer 1: what long division keeps, digit by digit. -/
import Derived.Test.YtlipjedofegciaaDoorIntR7
import Derived.Test.YtlipjedofegciaaDoorIntM3
import Derived.Laws.AppendOwnNone
namespace Go.Proofs.YtlipjedofegciaaDoor
open Go Go.RowKit

/-- The digits from j on are done: rest and quotient. -/
structure RdInv (xs : List Nat) (V n : Nat) (rs qs : List Nat) (j : Nat) : Prop where
  rlt : ∀ d ∈ rs, d < 10
  qlt : ∀ t, qs.getD t 0 < 10
  ql : qs.length = xs.length
  sum : vl 10 (xs.drop j) = V * vl 10 (qs.drop j) + vl 10 rs
  lt : vl 10 rs < V
  zero : ∀ t, t < j → qs.getD t 0 = 0
  len : rs.length ≤ n + 1
/-- The digit i is under way. -/
structure RdIn (xs : List Nat) (V n : Nat) (rs qs : List Nat) (i : Nat) : Prop where
  rlt : ∀ d ∈ rs, d < 10
  qlt : ∀ t, qs.getD t 0 < 10
  ql : qs.length = xs.length
  sum : vl 10 (xs.drop i) = V * vl 10 (qs.drop i) + vl 10 rs
  lt : vl 10 rs + V * qs.getD i 0 < 10 * V
  zero : ∀ t, t < i → qs.getD t 0 = 0
  len : rs.length ≤ n + 1

theorem RdInv.start (xs : List Nat) (V n : Nat) (hV : 0 < V) : RdInv xs V n [] (List.replicate xs.length 0) xs.length :=
  ⟨by simp, fun t => by rw [zeros_getD]; omega, by simp, by simp [vl], by simpa [vl] using hV, fun t _ => zeros_getD _ t, by simp⟩
theorem vl_drop_getD (xs : List Nat) (k : Nat) : vl 10 (xs.drop k) = xs.getD k 0 + 10 * vl 10 (xs.drop (k + 1)) := by
  rcases Nat.lt_or_ge k xs.length with h | h
  · rw [vl_drop_succ xs k h]; simp [List.getD_eq_getElem?_getD, h]
  · rw [List.drop_of_length_le h, List.drop_of_length_le (by omega)]
    simp [List.getD_eq_getElem?_getD, vl, h]
theorem RdInv.digit {xs rs qs : List Nat} {V n i : Nat} (h : RdInv xs V n rs qs (i + 1)) (hx : xs.getD i 0 < 10) (hVn : V < 10 ^ n) : RdIn xs V n ((xs.getD i 0 :: rs).take (n + 1)) qs i := by
  have hlt := h.lt
  have e1 : vl 10 (xs.getD i 0 :: rs) = xs.getD i 0 + 10 * vl 10 rs := rfl
  have e2 : vl 10 ((xs.getD i 0 :: rs).take (n + 1)) = xs.getD i 0 + 10 * vl 10 rs := by
    rw [← e1]
    refine take_of_lt 10 _ (n + 1) (10 * V) ?_ (by omega)
    rw [Nat.pow_succ]; omega
  refine ⟨fun d hd => ?_, h.qlt, h.ql, ?_, ?_, fun t ht => h.zero t (by omega), by rw [List.length_take]; omega⟩
  · have := List.mem_of_mem_take hd
    rcases List.mem_cons.1 this with rfl | hd
    · exact hx
    · exact h.rlt d hd
  · rw [e2, vl_drop_getD, vl_drop_getD qs, h.zero i (by omega), h.sum]
    generalize vl 10 (qs.drop (i + 1)) = Q
    grind
  · rw [e2, h.zero i (by omega)]; omega
theorem RdInv.digit' {xs rs qs : List Nat} {V n i : Nat} (h : RdInv xs V n rs qs (i + 1)) (hx : xs.getD i 0 < 10) (hVn : V < 10 ^ n) (hl : rs.length + 1 ≤ n + 1) : RdIn xs V n (xs.getD i 0 :: rs) qs i := by
  have := h.digit hx hVn
  rwa [List.take_of_length_le (by simpa using hl)] at this
theorem RdIn.step {xs rs qs : List Nat} {V n i : Nat} (h : RdIn xs V n rs qs i) (hi : i < xs.length) (hV : V ≤ vl 10 rs) (rs' : List Nat) (h1 : ∀ d ∈ rs', d < 10) (h2 : vl 10 rs' = vl 10 rs - V) (h3 : rs'.length = rs.length) :
    RdIn xs V n rs' (qs.set i (qs.getD i 0 + 1)) i ∧ qs.getD i 0 ≤ 8 := by
  have hq := h.ql
  have hlt := h.lt
  have hs := h.sum
  have hc : qs.getD i 0 ≤ 8 := by
    rcases Nat.lt_or_ge (qs.getD i 0) 9 with h9 | h9
    · omega
    · have : V * 9 ≤ V * qs.getD i 0 := Nat.mul_le_mul_left _ h9
      omega
  have e : vl 10 ((qs.set i (qs.getD i 0 + 1)).drop i) = vl 10 (qs.drop i) + 1 := by
    rw [vl_drop_getD, vl_drop_getD qs i, getD_set, if_pos ⟨rfl, by omega⟩, List.drop_set_of_lt (by omega)]
    omega
  refine ⟨⟨h1, fun t => ?_, by simpa using hq, ?_, ?_, fun t ht => ?_, by rw [h3]; exact h.len⟩, hc⟩
  · rw [getD_set]; split
    · omega
    · exact h.qlt t
  · rw [e, h2, hs, Nat.mul_add, Nat.mul_one]; omega
  · rw [h2, getD_set, if_pos ⟨rfl, by omega⟩, Nat.mul_add, Nat.mul_one]; omega
  · rw [getD_set, if_neg (by omega)]; exact h.zero t ht
theorem RdIn.stop {xs rs qs : List Nat} {V n i : Nat} (h : RdIn xs V n rs qs i) (hV : vl 10 rs < V) : RdInv xs V n rs qs i :=
  ⟨h.rlt, h.qlt, h.ql, h.sum, hV, h.zero, h.len⟩
theorem RdInv.last {xs rs qs : List Nat} {V n : Nat} (h : RdInv xs V n rs qs 0) : vl 10 qs = vl 10 xs / V ∧ vl 10 rs = vl 10 xs % V := by
  have h1 := h.sum
  have h2 := h.lt
  rw [List.drop_zero, List.drop_zero] at h1
  rw [h1]
  constructor
  · rw [Nat.mul_add_div (by omega), Nat.div_eq_of_lt h2, Nat.add_zero]
  · rw [Nat.mul_add_mod, Nat.mod_eq_of_lt h2]

/-- The zeros at the top of the divisor. -/
def TopInv (ys : List Nat) (j : Nat) : Prop := vl 10 ys = vl 10 (ys.take j)
theorem TopInv.step {ys : List Nat} {j : Nat} (h : TopInv ys (j + 1)) (h0 : ys.getD j 0 = 0) : TopInv ys j := by
  unfold TopInv at h ⊢
  rw [h, vl_take_succ, h0]; simp
/-- The number of digits that count. -/
def TopN (ys : List Nat) (n : Nat) : Prop := vl 10 (ys.take n) = vl 10 ys ∧ 1 ≤ n ∧ n ≤ ys.length ∧ 10 ^ (n - 1) ≤ vl 10 ys
theorem TopInv.one {ys : List Nat} (h : TopInv ys 1) (h1 : 1 ≤ ys.length) (hp : 0 < vl 10 ys) : TopN ys 1 := ⟨h.symm, by omega, h1, by rw [Nat.sub_self, Nat.pow_zero]; omega⟩
theorem TopInv.stop {ys : List Nat} {j : Nat} (h : TopInv ys (j + 1)) (h1 : j + 1 ≤ ys.length) (h0 : ys.getD j 0 ≠ 0) : TopN ys (j + 1) := by
  refine ⟨h.symm, by omega, h1, ?_⟩
  rw [Nat.add_sub_cancel, h, vl_take_succ]
  have : 10 ^ j * 1 ≤ 10 ^ j * ys.getD j 0 := Nat.mul_le_mul_left _ (by omega)
  omega
theorem TopN.lt {ys : List Nat} {n : Nat} (h : TopN ys n) (hy : ∀ d ∈ ys, d < 10) : vl 10 ys < 10 ^ n := by
  rw [← h.1]
  have := vl_lt 10 (ys.take n) (fun d hd => hy d (List.mem_of_mem_take hd))
  rwa [List.length_take, Nat.min_eq_left h.2.2.1] at this
theorem TopN.le {ys : List Nat} {n K : Nat} (h : TopN ys n) (hK : vl 10 ys < 10 ^ K) : n ≤ K := by
  rcases Nat.lt_or_ge K n with hg | hg
  · exfalso
    have h1 : 10 ^ K ≤ 10 ^ (n - 1) := Nat.pow_le_pow_right (by omega) (by omega)
    have := h.2.2.2
    omega
  · exact hg

/-- A list that is read, appended to a row of the call's own. -/
theorem wpList_appS {P : Program} {ops : Array Oper} {rest : List Oper} {o : Oper} {a : Act} {Q : Exit → Act → World → Prop} {w : World} {base : Nat} {e : TypeId} {v : Value} {n : Nat} {xs : List Value} (hown : w.ownsRow base e 1 v n xs)
    {α : Type} {enc : α → Value} (henc : ∀ x, (enc x).oneCell' = true) (A : Option Addr) (ys : List α) (m c : Nat) (hm : ys.length = m) (hS : SlA enc w A ys) (hA0 : A = none → c = 0) (hgd : o.guard = none) (s y : Operand) (t : TypeId)
    (ho : o.op = .call { callee := .builtin .append, args := #[s, y], argTypes := #[t, t] })
    (i : TypeInfo) (z : Value) (bytes : Nat) (ht : P.underlying t = some (.slice e)) (hi : P.info? e = some i) (hz : i.zero = some z)
    (hsize : i.size = 1) (hby : i.bytes = bytes) (hzs : z.cells.size = 1)
    (hs : a.eval s = v) (hx : a.eval y = .slice A m c) (h63 : n + m ≤ maxLen) (hbytes : (n + m) * bytes ≤ 140737488355328) (hbase : base ≤ w.heap.size)
    (h : ∀ v' w', w'.ownsRow base e 1 v' (n + m) (xs ++ ys.map enc) → Below base w w' → wpList P ops Q rest (a.put o.dst v') w') : wpList P ops Q (o :: rest) a w := by
  cases A with
  | none =>
    have h0 : ys = [] := by
      cases ys with
      | nil => rfl
      | cons y ys =>
        obtain ⟨b, o, h1, _⟩ := hS 0 y rfl
        cases h1
    subst h0
    have hm0 : m = 0 := by simpa using hm.symm
    subst hm0
    rw [hA0 rfl] at hx
    refine wpList_append_own_none hgd s y t ho base e i 1 ht hi v n xs hs hown hx ?_
    exact h v w (by simpa using hown) (Below.refl _ _)
  | some ad =>
    refine wpList_append_own w hgd s y t ho base e i z 1 bytes ht hi hz hsize hby hzs (by decide) v n xs hs hown ad m c (ys.map enc) hx (by simp [hm]) ?_ ?_ h63 hbytes hbase ?_
    · intro j u hj
      rw [List.getElem?_map] at hj
      cases hyj : ys[j]? with
      | none => rw [hyj] at hj; cases hj
      | some x =>
        rw [hyj] at hj
        obtain ⟨b, o', h1, _, h3⟩ := hS j x hyj
        injection h1 with h1
        subst h1
        have : (⟨b, o', none⟩ : Addr).add j = ⟨b, o' + j, none⟩ := by unfold Addr.add; split <;> simp_all
        rw [this, h3]; exact hj
    · intro u hu
      obtain ⟨x, _, rfl⟩ := List.mem_map.1 hu
      exact henc x
    · intro v' w' h2 h3 _
      exact h v' w' h2 ((Below.refl _ _).grown h3 hbase fun k hk => (hown.lt k hk).1)
theorem own_row {w : World} {base e g n : Nat} {xs : List Value} (h : w.ownsRow base e 1 (.slice (some ⟨g, 0, none⟩) n n) n xs) : w.heap[g]? = some (.cells xs.toArray e (0, 0)) ∧ base ≤ g ∧ xs.length = n := by
  rcases h.2 with ⟨hv, _⟩ | ⟨g', cap, cur, hv, hb, hh, _, _, hs, ht⟩
  · cases hv
  · injection hv with h1 h2 h3
    simp only [Option.some.injEq, Addr.mk.injEq, and_true] at h1
    subst h1 h3
    have hl := h.1
    rw [Nat.mul_one] at hl hs ht
    rw [List.take_of_length_le (by simp [hs])] at ht
    refine ⟨?_, hb, hl⟩
    rw [hh, ← ht]
theorem row_own {w : World} {base e g n : Nat} {xs : List Value} (h : w.heap[g]? = some (.cells xs.toArray e (0, 0))) (hb : base ≤ g) (hl : xs.length = n) (hn : n ≤ maxLen) : w.ownsRow base e 1 (.slice (some ⟨g, 0, none⟩) n n) n xs := by
  refine ⟨by omega, .inr ⟨g, n, xs.toArray, rfl, hb, h, Nat.le_refl _, hn, by simp [hl], ?_⟩⟩
  rw [Nat.mul_one, List.take_of_length_le (by simp [hl])]
/-- A slice that reads as a list, from block base on, with what its room is. -/
structure SlF (w : World) (base : Nat) (A : Option Addr) (xs : List Nat) (c : Nat) : Prop where
  sl : SlA encI w A xs
  room : xs.length ≤ c
  most : c ≤ maxLen
  none0 : A = none → c = 0
  far : ∀ ad, A = some ad → base ≤ ad.block
theorem SlF.nil (w : World) (base : Nat) : SlF w base none [] 0 := ⟨SlA.nil, Nat.le_refl _, Nat.zero_le _, fun _ => rfl, fun _ h => by cases h⟩
theorem SlF.below {w w' : World} {base : Nat} {A : Option Addr} {xs : List Nat} {c : Nat} (h : SlF w base A xs c) (hb : Below w.heap.size w w') : SlF w' base A xs c := ⟨h.sl.below hb, h.room, h.most, h.none0, h.far⟩
theorem SlF.setCell {w : World} {base g o : Nat} {A : Option Addr} {xs : List Nat} {c : Nat} (h : SlF w base A xs c) (hg : g < base) (v : Value) : SlF (w.setCell ⟨g, o, none⟩ v) base A xs c :=
  ⟨fun j x hx => by
    obtain ⟨b, o', h1, h2, h3⟩ := h.sl j x hx
    have hb := h.far _ h1
    refine ⟨b, o', h1, by simpa using h2, (World.cell?_setCell_other w _ _ _ (fun e => ?_)).trans h3⟩
    have := congrArg Addr.block e
    simp only at this hb
    omega, h.room, h.most, h.none0, h.far⟩
theorem SlF.take {w : World} {base : Nat} {A : Option Addr} {xs : List Nat} {c : Nat} (h : SlF w base A xs c) (k : Nat) : SlF w base A (xs.take k) c :=
  ⟨h.sl.take, by rw [List.length_take]; have := h.room; omega, h.most, h.none0, h.far⟩
theorem SlF.of_own {w : World} {base base' e : Nat} {v : Value} {os : List Nat} (h : w.ownsRow base e 1 v os.length (os.map encI)) (hb : base' ≤ base) : ∃ A c, v = .slice A os.length c ∧ SlF w base' A os c := by
  have h0 := h
  rcases h.2 with ⟨hv, hn⟩ | ⟨g, cap, cur, hv, hb', hh, h7, h8, _⟩
  · obtain ⟨A, c, h1, _, h2⟩ := SlA.of_own h0
    rw [hv] at h1
    injection h1 with e1 e2 e3
    refine ⟨A, c, by rw [hv, ← e1, ← e3, hn], h2, by omega, by rw [← e3]; exact Nat.zero_le _, fun _ => e3.symm, fun ad hd => ?_⟩
    rw [← e1] at hd; cases hd
  · obtain ⟨A, c, h1, _, h2⟩ := SlA.of_own h0
    rw [hv] at h1
    injection h1 with e1 e2 e3
    refine ⟨A, c, by rw [hv, ← e1, ← e3], h2, by omega, by omega, fun e => ?_, fun ad hd => ?_⟩
    · rw [← e1] at e; cases e
    · rw [← e1] at hd
      injection hd with hd
      subst hd
      exact Nat.le_trans hb hb'
end Go.Proofs.YtlipjedofegciaaDoor

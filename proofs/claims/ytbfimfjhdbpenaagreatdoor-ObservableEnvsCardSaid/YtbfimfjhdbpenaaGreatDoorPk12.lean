/- Joined: IntA7, IntA8. -/
import Derived.Test.YtbfimfjhdbpenaaGreatDoorPk10
import Derived.Test.YtbfimfjhdbpenaaGreatDoorPk7
import Derived.Test.YtbfimfjhdbpenaaGreatDoorPk11
import Derived.Test.YtbfimfjhdbpenaaGreatDoorPk9
import Derived.Laws.AppendOwnNone
import Derived.Deep.CutBlock
import Derived.Deep.DeepCutAuto
import Derived.Laws.CopyOwn
/- Joined: IntQ, IntQ2, IntQ1, IntQ3, IntQ4, IntQ5, IntK7, IntE, IntE2. -/
/- The reference of layer 1: what long division keeps, digit by digit. -/
namespace Go.Proofs.YtbfimfjhdbpenaaGreatDoor
open Go Go.RowKit
structure RdInv (xs : List Nat) (V n : Nat) (rs qs : List Nat) (j : Nat) : Prop where
  rlt : ∀ d ∈ rs, d < 10
  qlt : ∀ t, qs.getD t 0 < 10
  ql : qs.length = xs.length
  sum : vl 10 (xs.drop j) = V * vl 10 (qs.drop j) + vl 10 rs
  lt : vl 10 rs < V
  zero : ∀ t, t < j → qs.getD t 0 = 0
  len : rs.length ≤ n + 1
structure RdIn (xs : List Nat) (V n : Nat) (rs qs : List Nat) (i : Nat) : Prop where
  rlt : ∀ d ∈ rs, d < 10
  qlt : ∀ t, qs.getD t 0 < 10
  ql : qs.length = xs.length
  sum : vl 10 (xs.drop i) = V * vl 10 (qs.drop i) + vl 10 rs
  lt : vl 10 rs + V * qs.getD i 0 < 10 * V
  zero : ∀ t, t < i → qs.getD t 0 = 0
  len : rs.length ≤ n + 1
theorem RdInv.start (xs : List Nat) (V n : Nat) (hV : 0 < V) : RdInv xs V n [] (List.replicate xs.length 0) xs.length :=
  ⟨by simp, fun t => by rw [zeros_getD]; omega, by simp, by simp [vl], by simpa [vl] using hV, fun t _ => zeros_getD _ t, by simp⟩
theorem vl_drop_getD (xs : List Nat) (k : Nat) : vl 10 (xs.drop k) = xs.getD k 0 + 10 * vl 10 (xs.drop (k + 1)) := by
  rcases Nat.lt_or_ge k xs.length with h | h
  · rw [vl_drop_succ xs k h]; simp [List.getD_eq_getElem?_getD, h]
  · rw [List.drop_of_length_le h, List.drop_of_length_le (by omega)]
    simp [List.getD_eq_getElem?_getD, vl, h]
theorem RdInv.digit {xs rs qs : List Nat} {V n i : Nat} (h : RdInv xs V n rs qs (i + 1)) (hx : xs.getD i 0 < 10) (hVn : V < 10 ^ n) : RdIn xs V n ((xs.getD i 0 :: rs).take (n + 1)) qs i := by
  have hlt := h.lt
  have e1 : vl 10 (xs.getD i 0 :: rs) = xs.getD i 0 + 10 * vl 10 rs := rfl
  have e2 : vl 10 ((xs.getD i 0 :: rs).take (n + 1)) = xs.getD i 0 + 10 * vl 10 rs := by
    rw [← e1]
    refine take_of_lt 10 _ (n + 1) (10 * V) ?_ (by omega)
    rw [Nat.pow_succ]; omega
  refine ⟨fun d hd => ?_, h.qlt, h.ql, ?_, ?_, fun t ht => h.zero t (by omega), by rw [List.length_take]; omega⟩
  · have := List.mem_of_mem_take hd
    rcases List.mem_cons.1 this with rfl | hd
    · exact hx
    · exact h.rlt d hd
  · rw [e2, vl_drop_getD, vl_drop_getD qs, h.zero i (by omega), h.sum]
    generalize vl 10 (qs.drop (i + 1)) = Q
    grind
  · rw [e2, h.zero i (by omega)]; omega
theorem RdInv.digit' {xs rs qs : List Nat} {V n i : Nat} (h : RdInv xs V n rs qs (i + 1)) (hx : xs.getD i 0 < 10) (hVn : V < 10 ^ n) (hl : rs.length + 1 ≤ n + 1) : RdIn xs V n (xs.getD i 0 :: rs) qs i := by
  have := h.digit hx hVn
  rwa [List.take_of_length_le (by simpa using hl)] at this
theorem RdIn.step {xs rs qs : List Nat} {V n i : Nat} (h : RdIn xs V n rs qs i) (hi : i < xs.length) (hV : V ≤ vl 10 rs) (rs' : List Nat) (h1 : ∀ d ∈ rs', d < 10) (h2 : vl 10 rs' = vl 10 rs - V) (h3 : rs'.length = rs.length) :
    RdIn xs V n rs' (qs.set i (qs.getD i 0 + 1)) i ∧ qs.getD i 0 ≤ 8 := by
  have hq := h.ql
  have hlt := h.lt
  have hs := h.sum
  have hc : qs.getD i 0 ≤ 8 := by
    rcases Nat.lt_or_ge (qs.getD i 0) 9 with h9 | h9
    · omega
    · have : V * 9 ≤ V * qs.getD i 0 := Nat.mul_le_mul_left _ h9
      omega
  have e : vl 10 ((qs.set i (qs.getD i 0 + 1)).drop i) = vl 10 (qs.drop i) + 1 := by
    rw [vl_drop_getD, vl_drop_getD qs i, getD_set, if_pos ⟨rfl, by omega⟩, List.drop_set_of_lt (by omega)]
    omega
  refine ⟨⟨h1, fun t => ?_, by simpa using hq, ?_, ?_, fun t ht => ?_, by rw [h3]; exact h.len⟩, hc⟩
  · rw [getD_set]; split
    · omega
    · exact h.qlt t
  · rw [e, h2, hs, Nat.mul_add, Nat.mul_one]; omega
  · rw [h2, getD_set, if_pos ⟨rfl, by omega⟩, Nat.mul_add, Nat.mul_one]; omega
  · rw [getD_set, if_neg (by omega)]; exact h.zero t ht
theorem RdIn.stop {xs rs qs : List Nat} {V n i : Nat} (h : RdIn xs V n rs qs i) (hV : vl 10 rs < V) : RdInv xs V n rs qs i :=
  ⟨h.rlt, h.qlt, h.ql, h.sum, hV, h.zero, h.len⟩
theorem RdInv.last {xs rs qs : List Nat} {V n : Nat} (h : RdInv xs V n rs qs 0) : vl 10 qs = vl 10 xs / V ∧ vl 10 rs = vl 10 xs % V := by
  have h1 := h.sum
  have h2 := h.lt
  rw [List.drop_zero, List.drop_zero] at h1
  rw [h1]
  constructor
  · rw [Nat.mul_add_div (by omega), Nat.div_eq_of_lt h2, Nat.add_zero]
  · rw [Nat.mul_add_mod, Nat.mod_eq_of_lt h2]
def TopInv (ys : List Nat) (j : Nat) : Prop := vl 10 ys = vl 10 (ys.take j)
theorem TopInv.step {ys : List Nat} {j : Nat} (h : TopInv ys (j + 1)) (h0 : ys.getD j 0 = 0) : TopInv ys j := by
  unfold TopInv at h ⊢
  rw [h, vl_take_succ, h0]; simp
def TopN (ys : List Nat) (n : Nat) : Prop := vl 10 (ys.take n) = vl 10 ys ∧ 1 ≤ n ∧ n ≤ ys.length ∧ 10 ^ (n - 1) ≤ vl 10 ys
theorem TopInv.one {ys : List Nat} (h : TopInv ys 1) (h1 : 1 ≤ ys.length) (hp : 0 < vl 10 ys) : TopN ys 1 := ⟨h.symm, by omega, h1, by rw [Nat.sub_self, Nat.pow_zero]; omega⟩
theorem TopInv.stop {ys : List Nat} {j : Nat} (h : TopInv ys (j + 1)) (h1 : j + 1 ≤ ys.length) (h0 : ys.getD j 0 ≠ 0) : TopN ys (j + 1) := by
  refine ⟨h.symm, by omega, h1, ?_⟩
  rw [Nat.add_sub_cancel, h, vl_take_succ]
  have : 10 ^ j * 1 ≤ 10 ^ j * ys.getD j 0 := Nat.mul_le_mul_left _ (by omega)
  omega
theorem TopN.lt {ys : List Nat} {n : Nat} (h : TopN ys n) (hy : ∀ d ∈ ys, d < 10) : vl 10 ys < 10 ^ n := by
  rw [← h.1]
  have := vl_lt 10 (ys.take n) (fun d hd => hy d (List.mem_of_mem_take hd))
  rwa [List.length_take, Nat.min_eq_left h.2.2.1] at this
theorem TopN.le {ys : List Nat} {n K : Nat} (h : TopN ys n) (hK : vl 10 ys < 10 ^ K) : n ≤ K := by
  rcases Nat.lt_or_ge K n with hg | hg
  · exfalso
    have h1 : 10 ^ K ≤ 10 ^ (n - 1) := Nat.pow_le_pow_right (by omega) (by omega)
    have := h.2.2.2
    omega
  · exact hg
theorem wpList_appS {P : Program} {ops : Array Oper} {rest : List Oper} {o : Oper} {a : Act} {Q : Exit → Act → World → Prop} {w : World} {base : Nat} {e : TypeId} {v : Value} {n : Nat} {xs : List Value} (hown : w.ownsRow base e 1 v n xs)
    {α : Type} {enc : α → Value} (henc : ∀ x, (enc x).oneCell' = true) (A : Option Addr) (ys : List α) (m c : Nat) (hm : ys.length = m) (hS : SlA enc w A ys) (hA0 : A = none → c = 0) (hgd : o.guard = none) (s y : Operand) (t : TypeId)
    (ho : o.op = .call { callee := .builtin .append, args := #[s, y], argTypes := #[t, t] })
    (i : TypeInfo) (z : Value) (bytes : Nat) (ht : P.underlying t = some (.slice e)) (hi : P.info? e = some i) (hz : i.zero = some z)
    (hsize : i.size = 1) (hby : i.bytes = bytes) (hzs : z.cells.size = 1)
    (hs : a.eval s = v) (hx : a.eval y = .slice A m c) (h63 : n + m ≤ maxLen) (hbytes : (n + m) * bytes ≤ 140737488355328) (hbase : base ≤ w.heap.size)
    (h : ∀ v' w', w'.ownsRow base e 1 v' (n + m) (xs ++ ys.map enc) → Below base w w' → wpList P ops Q rest (a.put o.dst v') w') : wpList P ops Q (o :: rest) a w := by
  cases A with
  | none =>
    have h0 : ys = [] := by
      cases ys with
      | nil => rfl
      | cons y ys =>
        obtain ⟨b, o, h1, _⟩ := hS 0 y rfl
        cases h1
    subst h0
    have hm0 : m = 0 := by simpa using hm.symm
    subst hm0
    rw [hA0 rfl] at hx
    refine wpList_append_own_none hgd s y t ho base e i 1 ht hi v n xs hs hown hx ?_
    exact h v w (by simpa using hown) (Below.refl _ _)
  | some ad =>
    refine wpList_append_own w hgd s y t ho base e i z 1 bytes ht hi hz hsize hby hzs (by decide) v n xs hs hown ad m c (ys.map enc) hx (by simp [hm]) ?_ ?_ h63 hbytes hbase ?_
    · intro j u hj
      rw [List.getElem?_map] at hj
      cases hyj : ys[j]? with
      | none => rw [hyj] at hj; cases hj
      | some x =>
        rw [hyj] at hj
        obtain ⟨b, o', h1, _, h3⟩ := hS j x hyj
        injection h1 with h1
        subst h1
        have : (⟨b, o', none⟩ : Addr).add j = ⟨b, o' + j, none⟩ := by unfold Addr.add; split <;> simp_all
        rw [this, h3]; exact hj
    · intro u hu
      obtain ⟨x, _, rfl⟩ := List.mem_map.1 hu
      exact henc x
    · intro v' w' h2 h3 _
      exact h v' w' h2 ((Below.refl _ _).grown h3 hbase fun k hk => (hown.lt k hk).1)
theorem own_row {w : World} {base e g n : Nat} {xs : List Value} (h : w.ownsRow base e 1 (.slice (some ⟨g, 0, none⟩) n n) n xs) : w.heap[g]? = some (.cells xs.toArray e (0, 0)) ∧ base ≤ g ∧ xs.length = n := by
  rcases h.2 with ⟨hv, _⟩ | ⟨g', cap, cur, hv, hb, hh, _, _, hs, ht⟩
  · cases hv
  · injection hv with h1 h2 h3
    simp only [Option.some.injEq, Addr.mk.injEq, and_true] at h1
    subst h1 h3
    have hl := h.1
    rw [Nat.mul_one] at hl hs ht
    rw [List.take_of_length_le (by simp [hs])] at ht
    refine ⟨?_, hb, hl⟩
    rw [hh, ← ht]
theorem row_own {w : World} {base e g n : Nat} {xs : List Value} (h : w.heap[g]? = some (.cells xs.toArray e (0, 0))) (hb : base ≤ g) (hl : xs.length = n) (hn : n ≤ maxLen) : w.ownsRow base e 1 (.slice (some ⟨g, 0, none⟩) n n) n xs := by
  refine ⟨by omega, .inr ⟨g, n, xs.toArray, rfl, hb, h, Nat.le_refl _, hn, by simp [hl], ?_⟩⟩
  rw [Nat.mul_one, List.take_of_length_le (by simp [hl])]
structure SlF (w : World) (base : Nat) (A : Option Addr) (xs : List Nat) (c : Nat) : Prop where
  sl : SlA encI w A xs
  room : xs.length ≤ c
  most : c ≤ maxLen
  none0 : A = none → c = 0
  far : ∀ ad, A = some ad → base ≤ ad.block
theorem SlF.nil (w : World) (base : Nat) : SlF w base none [] 0 := ⟨SlA.nil, Nat.le_refl _, Nat.zero_le _, fun _ => rfl, fun _ h => by cases h⟩
theorem SlF.below {w w' : World} {base : Nat} {A : Option Addr} {xs : List Nat} {c : Nat} (h : SlF w base A xs c) (hb : Below w.heap.size w w') : SlF w' base A xs c := ⟨h.sl.below hb, h.room, h.most, h.none0, h.far⟩
theorem SlF.setCell {w : World} {base g o : Nat} {A : Option Addr} {xs : List Nat} {c : Nat} (h : SlF w base A xs c) (hg : g < base) (v : Value) : SlF (w.setCell ⟨g, o, none⟩ v) base A xs c :=
  ⟨fun j x hx => by
    obtain ⟨b, o', h1, h2, h3⟩ := h.sl j x hx
    have hb := h.far _ h1
    refine ⟨b, o', h1, by simpa using h2, (World.cell?_setCell_other w _ _ _ (fun e => ?_)).trans h3⟩
    have := congrArg Addr.block e
    simp only at this hb
    omega, h.room, h.most, h.none0, h.far⟩
theorem SlF.take {w : World} {base : Nat} {A : Option Addr} {xs : List Nat} {c : Nat} (h : SlF w base A xs c) (k : Nat) : SlF w base A (xs.take k) c :=
  ⟨h.sl.take, by rw [List.length_take]; have := h.room; omega, h.most, h.none0, h.far⟩
theorem SlF.of_own {w : World} {base base' e : Nat} {v : Value} {os : List Nat} (h : w.ownsRow base e 1 v os.length (os.map encI)) (hb : base' ≤ base) : ∃ A c, v = .slice A os.length c ∧ SlF w base' A os c := by
  have h0 := h
  rcases h.2 with ⟨hv, hn⟩ | ⟨g, cap, cur, hv, hb', hh, h7, h8, _⟩
  · obtain ⟨A, c, h1, _, h2⟩ := SlA.of_own h0
    rw [hv] at h1
    injection h1 with e1 e2 e3
    refine ⟨A, c, by rw [hv, ← e1, ← e3, hn], h2, by omega, by rw [← e3]; exact Nat.zero_le _, fun _ => e3.symm, fun ad hd => ?_⟩
    rw [← e1] at hd; cases hd
  · obtain ⟨A, c, h1, _, h2⟩ := SlA.of_own h0
    rw [hv] at h1
    injection h1 with e1 e2 e3
    refine ⟨A, c, by rw [hv, ← e1, ← e3], h2, by omega, by omega, fun e => ?_, fun ad hd => ?_⟩
    · rw [← e1] at e; cases e
    · rw [← e1] at hd
      injection hd with hd
      subst hd
      exact Nat.le_trans hb hb'
end Go.Proofs.YtbfimfjhdbpenaaGreatDoor
/- Layer 1: quotients and rests as texts, and greatest common divisors. -/
namespace Go.Proofs.YtbfimfjhdbpenaaGreatDoor
open Go Go.RowKit
def gcS (l m : List UInt8) : List UInt8 × Int :=
  if bothE l m = 0 then (Lib.itoa ((Nat.gcd (num l).natAbs (num m).natAbs : Nat) : Int), 0) else ([], bothE l m)
theorem gcS_err {l m : List UInt8} (h : ¬ bothE l m = 0) : gcS l m = ([], bothE l m) := by unfold gcS; rw [if_neg h]
theorem gcS_ok {l m : List UInt8} (h : bothE l m = 0) : gcS l m = (Lib.itoa ((Nat.gcd (num l).natAbs (num m).natAbs : Nat) : Int), 0) := by unfold gcS; rw [if_pos h]
theorem sgn_natAbs (m : Bool) (u : Nat) : (sgn m u).natAbs = u := by cases m <;> simp [sgn]
end Go.Proofs.YtbfimfjhdbpenaaGreatDoor
/- The walks of the reference of layer 1: long division. -/
namespace Go.Proofs.YtbfimfjhdbpenaaGreatDoor
open Go Go.RowKit
def TopR (ys : List Nat) (v : Value) : Prop := ∃ n : Nat, v = .int .i64 n ∧ Hid (TopN ys n)
def cellN (w : World) (a : Addr) : Nat := match w.cell? a with | some (.int _ n) => n.toNat | _ => 0
theorem cellN_of {w : World} {a : Addr} {n : Nat} (h : w.cell? a = some (.int .i64 (n : Int))) : cellN w a = n := by unfold cellN; rw [h]; rfl
theorem own_bel {w w' : World} {base e g n B : Nat} {xs : List Value} (h : w.ownsRow base e 1 (.slice (some ⟨g, 0, none⟩) n n) n xs) (hb : Below B w w') (hg : g < B) (hn : n ≤ maxLen) : w'.ownsRow base e 1 (.slice (some ⟨g, 0, none⟩) n n) n xs := by
  obtain ⟨h1, h2, h3⟩ := own_row h
  exact row_own ((hb.block g hg).trans h1) h2 h3 hn
theorem own_cellI {w : World} {base e g n cap : Nat} {os : List Nat} (h : w.ownsRow base e 1 (.slice (some ⟨g, 0, none⟩) n cap) n (os.map encI)) (j : Nat) (hj : j < os.length) : w.cell? ⟨g, j, none⟩ = some (.int .i64 ((os.getD j 0 : Nat) : Int)) := by
  rw [h.cellAt j (by have := h.1; simp at this; omega), List.getElem?_map, List.getElem?_eq_getElem hj]
  simp [List.getD_eq_getElem?_getD, hj, encI]
set_option maxRecDepth 100000 in
set_option maxHeartbeats 1600000 in
theorem refDivide_any (A B : Option Addr) (ca cb : Nat) (xs ys : List Nat) (w : World) (hA : SlA encI w A xs) (hB : SlA encI w B ys) (ha : ∀ d ∈ xs, d < 10) (hb : ∀ d ∈ ys, d < 10) (hla : xs.length ≤ 1073741824) (hlb : ys.length ≤ 1073741824) (hcb : ys.length ≤ cb) (hcm : cb ≤ maxLen)
    (hV : 0 < vl 10 ys) (K : Nat) (hVK : vl 10 ys < 10 ^ K) :
    Calls Tryz.prog 144 #[.slice A xs.length ca, .slice B ys.length cb] w fun e w' => ∃ A1 c1 qs A2 c2 rs, e = .returned (.tuple #[.slice A1 qs.length c1, .slice A2 rs.length c2]) ∧ SlA encI w' A1 qs ∧ SlF w' 0 A2 rs c2 ∧
      (∀ d ∈ qs, d < 10) ∧ (∀ d ∈ rs, d < 10) ∧ qs.length = xs.length ∧ rs.length ≤ K + 1 ∧ vl 10 qs = vl 10 xs / vl 10 ys ∧ vl 10 rs = vl 10 xs % vl 10 ys ∧ Below w.heap.size w w' := by
  obtain ⟨i0, hi, hz0, hz1, hz2⟩ := info_parts Tryz.info3'
  have hyl : 1 ≤ ys.length := by
    rcases Nat.eq_zero_or_pos ys.length with h | h
    · rw [List.eq_nil_of_length_eq_zero h] at hV; simp [vl] at hV
    · exact h
  have HS : Hid (TopInv ys ys.length) := by show _ = _; rw [List.take_of_length_le (Nat.le_refl _)]
  have HV := Lib.hid hV
  have HVK := Lib.hid hVK
  have HDA := Lib.hid (getD_lt 10 xs ha (by omega))
  have HDB := Lib.hid hb
  unfold maxLen at hcm
  clear hV hVK ha hb
  go_enter Tryz.func144, Tryz.ntmps144
  go_upto_block 0 with fail
  go_cut [6] from 12 to 23 (fun n wc => TopR ys n ∧ wc = w)
  case first =>
    go_wp2_with fail
    go_loopw [6] (fun n wr => ∃ j : Nat, n = .int .i64 j ∧ 1 ≤ j ∧ j ≤ ys.length ∧ Hid (TopInv ys j) ∧ wr = w) (fun n _ => (intOf n).toNat)
    case atStart => exact ⟨ys.length, rfl, hyl, Nat.le_refl _, HS, rfl⟩
    case round =>
      obtain ⟨j, rfl, h1, h2, hinv, rfl⟩ := hrel
      by_cases hj : j = 1
      · subst hj
        have HT := Lib.hid (hinv.out.one hyl HV.out)
        clear hinv HS
        go_wp2
        go_meet
        case rel => exact ⟨⟨1, rfl, HT⟩, rfl⟩
      · obtain ⟨k, rfl⟩ : ∃ k, j = k + 1 := ⟨j - 1, by omega⟩
        have hk : k < ys.length := by omega
        obtain ⟨b, o, rfl, hb, hc0⟩ := hB.get hk
        have ex : ys[k] = ys.getD k 0 := by simp [List.getD_eq_getElem?_getD, hk]
        rw [ex] at hc0
        have HI := Lib.hid (fun h0 => hinv.out.step (j := k) h0)
        have HT := Lib.hid (fun h0 => hinv.out.stop (j := k) h2 h0)
        have hk1 : 1 ≤ k := by omega
        clear hinv ex HS hj
        generalize ys.getD k 0 = x at *
        unfold encI at hc0
        by_cases h0 : x = 0
        · have HI2 := Lib.hid (HI.out h0)
          clear HI HT
          subst h0
          go_wp2
          go_roundw
          case rel => exact ⟨k, by go_num, hk1, by omega, HI2, trivial⟩
          case measure => simp [intOf]
        · have HT2 := Lib.hid (HT.out h0)
          have hx0 : ((x : Int) == 0) = false := by rw [beq_eq_false_iff_ne]; omega
          clear HI HT h0
          go_wp2
          go_meet
          case rel => exact ⟨⟨k + 1, rfl, HT2⟩, rfl⟩
  case rest =>
    obtain ⟨⟨n, rfl, ht⟩, rfl⟩ := hcut
    obtain ⟨zs, hzs⟩ : ∃ zs, ys.take n = zs := ⟨_, rfl⟩
    have hzl : zs.length = n := by rw [← hzs, List.length_take]; have := ht.out.2.2.1; omega
    have HB : Hid (SlA encI wc B zs) := by rw [← hzs]; exact Lib.hid hB.take
    have HDZ : Hid (∀ d ∈ zs, d < 10) := by rw [← hzs]; exact fun d hd => HDB.out d (List.mem_of_mem_take hd)
    have HVZ : Hid (vl 10 zs = vl 10 ys) := by rw [← hzs]; exact ht.out.1
    have HVN : Hid (vl 10 ys < 10 ^ zs.length) := by rw [hzl]; exact ht.out.lt HDB.out
    have hnK : zs.length ≤ K := by rw [hzl]; exact ht.out.le HVK.out
    have hz1' : 1 ≤ zs.length := by rw [hzl]; exact ht.out.2.1
    have hzy : zs.length ≤ ys.length := by rw [hzl]; exact ht.out.2.2.1
    subst hzl
    clear hB HS ht hzs HVK HDB hyl
    have hz0' : (0 : Int) ≤ (zs.length : Int) := by omega
    have hzc : (zs.length : Int) ≤ (cb : Int) := by omega
    go_wp2_with (at_make; refine wpList_make_full _ rfl _ _ 145 rfl wc.heap.size 3 i0 (.int .i64 0) 1 Tryz.underlying145 hi hz0 hz1 _ _ _ _ xs.length rfl rfl (by omega) (by omega) (by rw [hz2]; omega) (by unfold maxLen; omega) (Nat.le_refl _) ?_; intro w1 hown hg1)
    have hb1 : Below wc.heap.size wc w1 := (Below.refl _ _).grown hg1 (Nat.le_refl _) (fun k hk => by cases hk)
    have hown : w1.ownsRow wc.heap.size 3 1 (.slice (some ⟨wc.heap.size, 0, none⟩) xs.length xs.length) xs.length ((List.replicate xs.length 0).map encI) := by
      have e : (madeCells (Value.int .i64 0).cells (xs.length * 1)).toList = (List.replicate xs.length 0).map encI := by
        rw [Nat.mul_one]
        show (madeCells #[Value.int .i64 0] _).toList = _
        rw [toList_madeCells_one]; simp [encI]
      rw [e] at hown; exact hown
    have hsz1 : wc.heap.size < w1.heap.size := lt_of_block (own_row hown).1
    go_loopw [8, 9] (fun r i wr => ∃ (j c : Nat) (A2 : Option Addr) (rs qs : List Nat), j ≤ xs.length ∧ i = .int .i64 ((j : Int) - 1) ∧ r = .slice A2 rs.length c ∧ SlF wr (wc.heap.size + 1) A2 rs c ∧
        wr.ownsRow wc.heap.size 3 1 (.slice (some ⟨wc.heap.size, 0, none⟩) xs.length xs.length) xs.length (qs.map encI) ∧ Hid (RdInv xs (vl 10 ys) zs.length rs qs j) ∧ Below wc.heap.size wc wr) (fun _ i _ => (intOf i + 1).toNat)
    case atStart => exact ⟨xs.length, 0, none, [], _, Nat.le_refl _, rfl, rfl, SlF.nil _ _, hown, RdInv.start _ _ _ HV.out, hb1⟩
    case round =>
      clear hown hg1 hb1 hsz1
      obtain ⟨j, c, A2, rs, qs, hj, rfl, rfl, hF, hown, hinv, hbel⟩ := hrel
      cases j with
      | zero =>
        have e0 : (((0 : Nat) : Int) - 1) = -1 := rfl
        rw [e0]
        clear e0
        go_wp2
        go_ret2
        have hql := hinv.out.ql
        obtain ⟨f1, f2⟩ := hinv.out.last
        have hS : SlA encI wr (some ⟨wc.heap.size, 0, none⟩) qs := by
          obtain ⟨A1, c1, h1, _, hS⟩ := SlA.of_own hown
          injection h1 with h1
          rw [h1]; exact hS
        exact ⟨some ⟨wc.heap.size, 0, none⟩, xs.length, qs, A2, c, rs, by rw [hql]; rfl, hS, ⟨hF.sl, hF.room, hF.most, hF.none0, fun _ _ => Nat.zero_le _⟩, mem_getD qs 10 (fun t _ => hinv.out.qlt t), hinv.out.rlt, hql, by have := hinv.out.len; omega, f1, f2, hbel⟩
      | succ i =>
        have ej : ((i + 1 : Nat) : Int) - 1 = (i : Int) := by omega
        rw [ej]
        clear ej
        have hil : i < xs.length := hj
        obtain ⟨b, o, hAe, hb0, hc0⟩ := (hA.below hbel).get hil
        have ex : xs[i] = xs.getD i 0 := by simp [List.getD_eq_getElem?_getD, hil]
        rw [ex] at hc0
        have hx := HDA.out i
        have HD1 := Lib.hid (hinv.out.digit hx HVN.out)
        have HD2 := Lib.hid (fun hl => hinv.out.digit' hx HVN.out hl)
        have hrl := hinv.out.len
        have hsz := hbel.size
        clear ex hinv
        generalize xs.getD i 0 = x at *
        unfold encI at hc0
        have hi0 : (0 : Int) ≤ (i : Int) := by omega
        have hi1 : (i : Int) < (xs.length : Int) := by omega
        subst hAe
        have hlit : (wr.alloc (.cells #[.int .i64 (x : Int)] 3)).ownsRow wr.heap.size 3 1 (.slice (some ⟨wr.heap.size, 0, none⟩) 1 1) 1 [.int .i64 (x : Int)] := row_own (heap_alloc_new wr _) (Nat.le_refl _) rfl (by unfold maxLen; omega)
        have hb2 : Below wr.heap.size wr (wr.alloc (.cells #[.int .i64 (x : Int)] 3)) := (Below.refl _ _).alloc (Nat.le_refl _) _
        have hF2 := hF.below hb2
        have hgq := lt_of_block (own_row hown).1
        have hx63 : xs.length ≤ maxLen := by unfold maxLen; omega
        have HO := Lib.hid (fun w' (h : Below wr.heap.size wr w') => own_bel hown h hgq hx63)
        by_cases hcut : zs.length < rs.length
        all_goals
          go_wp2_with (
            at_builtin
            refine wpList_appS hlit (enc := encI) (fun _ => rfl) A2 rs rs.length c rfl hF2.sl hF2.none0 rfl _ _ 145 rfl i0 (.int .i64 0) 8 Tryz.underlying145 hi hz0 hz1 hz2 rfl rfl rfl (by unfold maxLen; omega) (by omega) (by simp) ?_
            intro v' w2 hown2 hb3
            rw [Nat.add_comm] at hown2
            obtain ⟨A3, c3, rfl, hF3⟩ := SlF.of_own (os := x :: rs) (base' := wc.heap.size + 1) hown2 hgq
            rw [List.length_cons]
            have hr3 := hF3.room
            have hm3 := hF3.most
            rw [List.length_cons] at hr3
            unfold maxLen at hm3
            have hb4 := hb2.trans hb3
            have hown3 := HO.out _ hb4
            have hbel3 := hbel.trans (hb4.mono hsz)
            clear hF2 hlit hown2 hb3 hF HO)
          have hIN : ∃ ts, Hid (RdIn xs (vl 10 ys) zs.length ts qs i) ∧ SlF w2 (wc.heap.size + 1) A3 ts c3 ∧ (ts = (x :: rs).take (zs.length + 1) ∨ ts = x :: rs) ∧ (zs.length < rs.length → ts = (x :: rs).take (zs.length + 1)) ∧ (¬ zs.length < rs.length → ts = x :: rs) := by
            by_cases hc : zs.length < rs.length
            · exact ⟨_, HD1, hF3.take _, .inl rfl, fun _ => rfl, fun h => absurd hc h⟩
            · exact ⟨_, HD2.out (by omega), hF3, .inr rfl, fun h => absurd h hc, fun _ => rfl⟩
          obtain ⟨ts, HIN, hFT, _, ht1, ht2⟩ := hIN
          have hlv : ∀ l : Nat, (zs.length < rs.length → l = zs.length + 1) → (¬ zs.length < rs.length → l = rs.length + 1) → ts.length = l := fun l h1 h2 => by
            by_cases hc : zs.length < rs.length
            · rw [ht1 hc, h1 hc, List.length_take, List.length_cons]; omega
            · rw [ht2 hc, h2 hc, List.length_cons]
          have HTL : Hid (ts.length = if zs.length < rs.length then zs.length + 1 else rs.length + 1) := hlv _ (fun h => by rw [if_pos h]) (fun h => by rw [if_neg h])
          clear ht1 ht2 hlv HD1 HD2 hF3 hr3 hown hb2 hb4 hbel hc0
          go_loopw [8] (fun r wr => ∃ (c5 : Nat) (A5 : Option Addr) (rs5 qs5 : List Nat), r = .slice A5 rs5.length c5 ∧ SlF wr (wc.heap.size + 1) A5 rs5 c5 ∧
              wr.ownsRow wc.heap.size 3 1 (.slice (some ⟨wc.heap.size, 0, none⟩) xs.length xs.length) xs.length (qs5.map encI) ∧ Hid (RdIn xs (vl 10 ys) zs.length rs5 qs5 i) ∧ Below wc.heap.size wc wr) (fun _ wr => 10 - cellN wr ⟨wc.heap.size, i, none⟩)
          case atStart => exact ⟨c3, A3, ts, qs, by rw [HTL.out]; simp [hcut], hFT, hown3, HIN, hbel3⟩
          case round =>
            clear HIN hown3 hbel3 hFT HTL
            obtain ⟨c5, A5, rs5, qs5, rfl, hF5, hown5, hin5, hbel5⟩ := hrel
            have hq5 := hin5.out.ql
            have hl5 := hin5.out.len
            have hS5 := hF5.sl
            have HG := Lib.hid (greater_any A5 B c5 cb rs5 zs wr hS5 (HB.out.below hbel5) hin5.out.rlt HDZ.out (by omega) (by omega))
            by_cases hge : vl 10 ys ≤ vl 10 rs5
            · obtain ⟨cv, hcv, hcv0⟩ : ∃ cv : Int, cmpN (vl 10 rs5) (vl 10 zs) = cv ∧ 0 ≤ cv := ⟨_, rfl, by unfold cmpN; rw [HVZ.out]; split <;> (try split) <;> omega⟩
              rw [hcv] at HG
              have HM := Lib.hid (minus_any A5 B c5 cb rs5 zs wr hS5 (HB.out.below hbel5) hin5.out.rlt HDZ.out (by omega) (by rw [HVZ.out]; exact hge))
              rw [HVZ.out] at HM
              have HST := Lib.hid (fun rs' h1 h2 h3 => hin5.out.step hil hge rs' h1 h2 h3)
              have hcell := own_cellI hown5 i (by omega)
              have HM0 : Hid (cellN wr ⟨wc.heap.size, i, none⟩ = qs5.getD i 0) := cellN_of hcell
              have hgq5 := lt_of_block (own_row hown5).1
              have HO5 := Lib.hid (fun w' (h : Below wr.heap.size wr w') => own_bel hown5 h hgq5 hx63)
              obtain ⟨y, hy⟩ : ∃ y, qs5.getD i 0 = y := ⟨_, rfl⟩
              rw [hy] at HST HM0
              have HY := Lib.hid hy
              clear hcv hge hcell hin5 hown5 hF5 hS5 hy
              go_wp2_with (first
                | (go_at_call 170; refine HG.out.mono ?_; rintro e w' ⟨rfl, rfl⟩)
                | (go_at_call 171; refine HM.out.mono ?_; rintro e w6 ⟨v6, os6, rfl, hown6, hb6, hl6, hd6, hv6⟩
                   obtain ⟨A6, c6, rfl, hF6⟩ := SlF.of_own (base' := wc.heap.size + 1) hown6 hgq5
                   have HST6 := Lib.hid (HST.out os6 hd6 hv6 hl6)
                   have hq6 := HO5.out _ hb6
                   have hcell6 := own_cellI hq6 i (by omega)
                   rw [HY.out] at hcell6
                   have HM1 : Hid (cellN (w6.setCell ⟨wc.heap.size, i, none⟩ (.int .i64 ((y : Int) + 1))) ⟨wc.heap.size, i, none⟩ = y + 1) := by
                     have := own_cellI (own_set' hq6 i (y + 1) (Int.natCast_add y 1)) i (by simp; omega)
                     rw [getD_set, if_pos ⟨rfl, by omega⟩] at this
                     exact cellN_of this
                   have hfr6 := hq6.frozenAt i
                   have hbel6 := hbel5.trans (hb6.mono hbel5.size)
                   have hq8 := HST6.out.2
                   have HL6 := Lib.hid hl6
                   clear hown6 hd6 hv6 hl6 HO5 HST hb6))
              go_roundw
              case rel => exact ⟨c6, A6, os6, qs5.set i (y + 1), rfl, hF6.setCell (by omega) _, own_set' hq6 i (y + 1) (Int.natCast_add y 1), HST6.out.1, hbel6.setCell (p := ⟨wc.heap.size, i, none⟩) (Nat.le_refl _) _⟩
              case measure => rw [HM1.out, HM0.out]; omega
            · have hcv : cmpN (vl 10 rs5) (vl 10 zs) = -1 := by unfold cmpN; rw [HVZ.out, if_neg (by omega), if_pos (by omega)]
              rw [hcv] at HG
              have HI5 := Lib.hid (hin5.out.stop (by omega))
              clear hcv hin5 hge
              go_wp2_with (go_at_call 170; refine HG.out.mono ?_; rintro e w' ⟨rfl, rfl⟩)
              go_roundw
              case rel => exact ⟨i, c5, A5, rs5, qs5, by omega, rfl, rfl, hF5, hown5, HI5, hbel5⟩
              case measure => simp [intOf]
end Go.Proofs.YtbfimfjhdbpenaaGreatDoor
/- The walks of the reference of layer 1: DivMod. -/
namespace Go.Proofs.YtbfimfjhdbpenaaGreatDoor
open Go Go.RowKit
theorem digits_canF (s : ByteArray) (h : chk s.data.toList = 0) (X : Nat) (hX : vl 10 (dgs (bod s.data.toList)) = X) (g : Bool) (hg : ngB s.data.toList = g) (w : World) :
    Calls Tryz.prog 105 #[.string s] w fun e w' => ∃ A c xs, e = .returned (.tuple #[.slice A xs.length c, .bool g, .bool true]) ∧ SlF w' 0 A xs c ∧ (∀ d ∈ xs, d < 10) ∧ xs.length ≤ 1000 ∧ vl 10 xs = X ∧ Below w.heap.size w w' := by
  subst hX; subst hg
  refine (digits_yes s w (by rw [h]; decide) (by have := len_of_chk h; rw [← Lib.size_eq] at this; omega)).mono ?_
  rintro e w' ⟨v, rfl, hown, hb⟩
  rw [show (bod s.data.toList).length = (dgs (bod s.data.toList)).length by rw [dgs_length]] at hown
  obtain ⟨A, c, rfl, hF⟩ := SlF.of_own (base' := 0) hown (Nat.zero_le _)
  obtain ⟨h1, h2⟩ := bod_len_of_chk h
  exact ⟨A, c, _, rfl, hF, h2, by rw [dgs_length]; exact h1, rfl, hb⟩
theorem zero_of (A : Option Addr) (ca : Nat) (xs : List Nat) (b : Bool) (w : World) (hA : SlA encI w A xs) (ha : ∀ d ∈ xs, d < 10) (hla : xs.length ≤ 1099511627776) (hb : decide (vl 10 xs = 0) = b) :
    Calls Tryz.prog 143 #[.slice A xs.length ca] w fun e w' => e = .returned (.bool b) ∧ w = w' := by
  subst hb; exact zero_any A ca xs w hA ha hla
def DvR (w : World) (L Q R : Nat) (e : Ending) (w' : World) : Prop := ∃ A1 c1 qs A2 c2 rs, e = .returned (.tuple #[.slice A1 qs.length c1, .slice A2 rs.length c2]) ∧ SlA encI w' A1 qs ∧ SlF w' 0 A2 rs c2 ∧
      (∀ d ∈ qs, d < 10) ∧ (∀ d ∈ rs, d < 10) ∧ qs.length ≤ 1001 ∧ rs.length ≤ L + 1 ∧ vl 10 qs = Q ∧ vl 10 rs = R ∧ Below w.heap.size w w'
theorem refDivide_of (A B : Option Addr) (ca cb : Nat) (xs ys : List Nat) (X Y Q R : Nat) (w : World) (hA : SlF w 0 A xs ca) (hB : SlF w 0 B ys cb) (ha : ∀ d ∈ xs, d < 10) (hb : ∀ d ∈ ys, d < 10) (hla : xs.length ≤ 1001) (hlb : ys.length ≤ 1001)
    (hX : vl 10 xs = X) (hY : vl 10 ys = Y) (hY0 : 0 < Y) (hQ : X / Y = Q) (hR : X % Y = R) (K : Nat) (hK : Y < 10 ^ K) :
    Calls Tryz.prog 144 #[.slice A xs.length ca, .slice B ys.length cb] w (DvR w K Q R) := by
  subst hX; subst hY; subst hQ; subst hR
  refine (refDivide_any A B ca cb xs ys w hA.sl hB.sl ha hb (by omega) (by omega) hB.room hB.most hY0 K hK).mono ?_
  rintro e w' ⟨A1, c1, qs, A2, c2, rs, rfl, h1, h2, h3, h4, h5, h6, h7, h8, h9⟩
  exact ⟨A1, c1, qs, A2, c2, rs, rfl, h1, h2, h3, h4, by omega, h6, h7, h8, h9⟩
theorem text_is (neg : Bool) (A : Option Addr) (ca : Nat) (xs : List Nat) (w : World) (hA : SlA encI w A xs) (ha : ∀ d ∈ xs, d < 10) (hla : xs.length ≤ 1099511627776) (z : Int) (hz : sgn neg (vl 10 xs) = z) :
    Calls Tryz.prog 145 #[.slice A xs.length ca, .bool neg] w fun e w' => e = .returned (.string ⟨(Lib.itoa z).toArray⟩) ∧ Below w.heap.size w w' := by
  subst hz; exact text_any neg A ca xs w hA ha hla
theorem pow_1000_lt {l : List UInt8} (h : chk l = 0) : vl 10 (dgs (bod l)) < 10 ^ thou := by
  obtain ⟨h1, h2⟩ := bod_len_of_chk h
  refine Nat.lt_of_lt_of_le (vl_lt 10 _ h2) (Nat.pow_le_pow_right (by omega) (by rw [dgs_length]; exact h1))
section
variable (s t : ByteArray) (g k : Bool) (X Y : Nat) (hg : ngB s.data.toList = g) (hk : ngB t.data.toList = k) (hX : vl 10 (dgs (bod s.data.toList)) = X) (hY : vl 10 (dgs (bod t.data.toList)) = Y) (h1 : chk s.data.toList = 0) (h2 : chk t.data.toList = 0) (w : World)
include hg hk hX hY h1 h2
set_option maxRecDepth 100000 in
set_option maxHeartbeats 1600000 in
theorem refDivMod_plain (h0 : 0 < Y) (hgz : g = false ∨ X % Y = 0) (z : Int) (hz : sgn (!(g == k)) (X / Y) = z) : Calls Tryz.prog 188 #[.string s, .string t] w fun e w' => e = .returned (.tuple #[.string ⟨(Lib.itoa z).toArray⟩, .string ⟨(Lib.itoa (sgn false (X % Y))).toArray⟩, .int .i64 0]) ∧ Below w.heap.size w w' := by
  have hs := len_of_chk h1
  have ht := len_of_chk h2
  rw [← Lib.size_eq] at hs ht
  have HB := Lib.hid (both_any s t (by omega) (by omega) w)
  rw [show bothE s.data.toList t.data.toList = 0 by unfold bothE; rw [if_pos h1, h2]] at HB
  have HD := Lib.hid (digits_canF s h1 X hX g hg)
  have HE := Lib.hid (digits_canF t h2 Y hY k hk)
  have HK : Hid (Y < 10 ^ thou) := by rw [← hY]; exact pow_1000_lt h2
  obtain ⟨Q, hQ⟩ : ∃ Q, X / Y = Q := ⟨_, rfl⟩
  obtain ⟨R, hR⟩ : ∃ R, X % Y = R := ⟨_, rfl⟩
  rw [hQ] at hz
  rw [hR] at hgz ⊢
  have HQ := Lib.hid hQ
  have HR := Lib.hid hR
  have HZ := Lib.hid hz
  have HY0 := Lib.hid h0
  have hth : thou ≤ 1000 := Nat.le_refl _
  have HZY : Hid (decide (Y = 0) = false) := decide_eq_false (by omega)
  clear hs ht hg hk hX hY h1 h2 hQ hR h0 hz
  rcases hgz with rfl | rfl
  all_goals
    try cases g
    all_goals
    cases k
    all_goals
      go_enter Tryz.func188, Tryz.ntmps188
      go_wp2_with (first
        | (go_at_call 142; refine HB.out.mono ?_; rintro e w1 ⟨rfl, hb1⟩)
        | (go_at_call 105; (with_reducible refine (HD.out _).mono ?_); rintro e w2 ⟨A, c, xs, rfl, hF, hd, hl, hn, hb2⟩; have HD1 := Lib.hid hd; have HN1 := Lib.hid hn; clear hd hn)
        | (go_at_call 105; (with_reducible refine (HE.out _).mono ?_); rintro e w3 ⟨B, d, ys, rfl, hF', hd', hl', hn', hb3⟩; have HD2 := Lib.hid hd'; have HN2 := Lib.hid hn'; clear hd' hn'; have ho' := Lib.hid hF'.room)
        | (go_at_call 143; (with_reducible refine (zero_of B d ys false _ hF'.sl HD2.out (by omega) (by rw [HN2.out]; exact HZY.out)).mono ?_); rintro e w4 ⟨rfl, rfl⟩)
        | (go_at_call 144; refine (refDivide_of A B c d xs ys X Y Q _ _ (hF.below hb3) hF' HD1.out HD2.out (by omega) (by omega) HN1.out HN2.out HY0.out HQ.out HR.out thou HK.out).mono ?_; rintro e w5 ⟨A1, c1, qs, A2, c2, rs, rfl, k1, k2, k3, k4, k5, k6, k7, k8, k9⟩; have K3 := Lib.hid k3; have K4 := Lib.hid k4; have K7 := Lib.hid k7; have K8 := Lib.hid k8; clear k3 k4 k7 k8)
        | (go_at_call 143; (with_reducible refine (zero_of A2 c2 rs true _ k2.sl K4.out (by omega) (decide_eq_true K8.out)).mono ?_); rintro e w6 ⟨rfl, rfl⟩)
        | (go_at_call 145; (with_reducible refine (text_is _ A1 c1 qs _ k1 K3.out (by omega) z (by rw [K7.out]; with_unfolding_all exact HZ.out)).mono ?_); rintro e w7 ⟨rfl, hb7⟩)
        | (go_at_call 145; (with_reducible refine (text_is _ A2 c2 rs _ (k2.sl.below hb7) K4.out (by omega) _ (by rw [K8.out])).mono ?_); rintro e w8 ⟨rfl, hb8⟩))
      go_ret3
      exact ⟨rfl, bt (bt (bt (bt (bt hb1 hb2) hb3) k9) hb7) hb8⟩
end
end Go.Proofs.YtbfimfjhdbpenaaGreatDoor
/- The walks of the reference of layer 1: DivMod of a negative integer with a rest; the whole of DivMod. -/
namespace Go.Proofs.YtbfimfjhdbpenaaGreatDoor
open Go Go.RowKit
section
variable (s t : ByteArray) (k : Bool) (X Y : Nat) (hg : ngB s.data.toList = true) (hk : ngB t.data.toList = k) (hX : vl 10 (dgs (bod s.data.toList)) = X) (hY : vl 10 (dgs (bod t.data.toList)) = Y) (h1 : chk s.data.toList = 0) (h2 : chk t.data.toList = 0) (w : World)
include hg hk hX hY h1 h2
end
end Go.Proofs.YtbfimfjhdbpenaaGreatDoor
/- The walks of the reference of layer 1: Gcd. -/
namespace Go.Proofs.YtbfimfjhdbpenaaGreatDoor
open Go Go.RowKit
def rdN (w : World) : Value → List Nat
  | .slice (some a) n _ => (List.range n).map fun j => cellN w ⟨a.block, a.off + j, none⟩
  | _ => []
theorem rdN_of {w : World} {A : Option Addr} {xs : List Nat} {c : Nat} (h : SlA encI w A xs) : rdN w (.slice A xs.length c) = xs := by
  cases A with
  | none =>
    cases xs with
    | nil => rfl
    | cons x xs => obtain ⟨b, o, h1, _⟩ := h 0 x rfl; cases h1
  | some a =>
    refine List.ext_getElem (by simp [rdN]) fun j h1 h2 => ?_
    obtain ⟨b, o, e, _, hc⟩ := h.get h2
    injection e with e
    subst e
    simp only [rdN, List.getElem_map, List.getElem_range]
    exact cellN_of hc
def GcRel (G x y : Nat) : Prop := Nat.gcd x y = G ∧ y < 10 ^ thou
theorem GcRel.step {G x y : Nat} (h : GcRel G x y) (hy : 0 < y) : GcRel G y (x % y) := by
  refine ⟨?_, Nat.lt_trans (Nat.mod_lt _ hy) h.2⟩
  rw [← h.1, Nat.gcd_comm y, ← Nat.gcd_rec, Nat.gcd_comm]
set_option maxRecDepth 100000 in
set_option maxHeartbeats 1600000 in
theorem refGcd_ok (s t : ByteArray) (h1 : chk s.data.toList = 0) (h2 : chk t.data.toList = 0) (G : Nat) (hG : Nat.gcd (vl 10 (dgs (bod s.data.toList))) (vl 10 (dgs (bod t.data.toList))) = G) (w : World) :
    Calls Tryz.prog 107 #[.string s, .string t] w fun e w' => e = .returned (.tuple #[.string ⟨(Lib.itoa (G : Int)).toArray⟩, .int .i64 0]) ∧ Below w.heap.size w w' := by
  have hs := len_of_chk h1
  have ht := len_of_chk h2
  rw [← Lib.size_eq] at hs ht
  have HB := Lib.hid (both_any s t (by omega) (by omega) w)
  rw [show bothE s.data.toList t.data.toList = 0 by unfold bothE; rw [if_pos h1, h2]] at HB
  have HD := Lib.hid (digits_canF s h1 _ rfl _ rfl)
  have HE := Lib.hid (digits_canF t h2 _ rfl _ rfl)
  have HR : Hid (GcRel G (vl 10 (dgs (bod s.data.toList))) (vl 10 (dgs (bod t.data.toList)))) := ⟨hG, pow_1000_lt h2⟩
  have hth : thou ≤ 1000 := Nat.le_refl _
  generalize vl 10 (dgs (bod s.data.toList)) = X at *
  generalize vl 10 (dgs (bod t.data.toList)) = Y at *
  generalize ngB s.data.toList = g at *
  generalize ngB t.data.toList = k at *
  clear hs ht h1 h2 hG
  go_enter Tryz.func107, Tryz.ntmps107
  go_wp2_with (first
    | (go_at_call 142; refine HB.out.mono ?_; rintro e w1 ⟨rfl, hb1⟩)
    | (go_at_call 105; (with_reducible refine (HD.out _).mono ?_); rintro e w2 ⟨A, c, xs, rfl, hF, hd, hl, hn, hb2⟩; have HD1 := Lib.hid hd; have HN1 := Lib.hid hn; clear hd hn)
    | (go_at_call 105; (with_reducible refine (HE.out _).mono ?_); rintro e w3 ⟨B, d, ys, rfl, hF', hd', hl', hn', hb3⟩; have HD2 := Lib.hid hd'; have HN2 := Lib.hid hn'; clear hd' hn'))
  have HG : Hid (GcRel G (vl 10 xs) (vl 10 ys)) := by rw [HN1.out, HN2.out]; exact HR.out
  clear HD HE HB HR HN1 HN2
  go_loopw [7, 10] (fun x y wr => ∃ (A : Option Addr) (c : Nat) (xs : List Nat) (B : Option Addr) (d : Nat) (ys : List Nat), x = .slice A xs.length c ∧ y = .slice B ys.length d ∧ SlF wr 0 A xs c ∧ SlF wr 0 B ys d ∧ Hid (∀ d ∈ xs, d < 10) ∧ Hid (∀ d ∈ ys, d < 10) ∧
      xs.length ≤ 1001 ∧ ys.length ≤ 1001 ∧ Hid (GcRel G (vl 10 xs) (vl 10 ys)) ∧ Below w.heap.size w wr) (fun _ y wr => vl 10 (rdN wr y))
  case atStart => exact ⟨A, c, xs, B, d, ys, rfl, rfl, hF.below hb3, hF', HD1, HD2, by omega, by omega, HG, bt (bt hb1 hb2) hb3⟩
  case round =>
    clear HG HD1 HD2 hF hF' hl hl' hb1 hb2 hb3
    obtain ⟨A, c, xs, B, d, ys, rfl, rfl, hF, hF', hd, hd', hl, hl', hg, hbel⟩ := hrel
    by_cases h0 : vl 10 ys = 0
    · have hb0 : decide (vl 10 ys = 0) = true := decide_eq_true h0
      have HZ := Lib.hid (zero_of B d ys true wr hF'.sl hd'.out (by omega) hb0)
      have HV : Hid (sgn false (vl 10 xs) = (G : Int)) := by
        have := hg.out.1
        rw [h0, Nat.gcd_zero_right] at this
        rw [this]; exact rfl
      have HT := Lib.hid (text_is false A c xs wr hF.sl hd.out (by omega) _ HV.out)
      clear h0 hb0 hg HV
      go_wp2_with (first
        | (go_at_call 143; refine HZ.out.mono ?_; rintro e w4 ⟨rfl, rfl⟩)
        | (go_at_call 145; refine HT.out.mono ?_; rintro e w5 ⟨rfl, hb5⟩))
      go_ret2
      exact ⟨rfl, hbel.trans (hb5.mono hbel.size)⟩
    · have hb0 : decide (vl 10 ys = 0) = false := decide_eq_false h0
      have HZ := Lib.hid (zero_of B d ys false wr hF'.sl hd'.out (by omega) hb0)
      have HDV := Lib.hid (refDivide_of A B c d xs ys _ _ _ _ wr hF hF' hd.out hd'.out hl hl' rfl rfl (by omega) rfl rfl thou hg.out.2)
      have HG := Lib.hid (hg.out.step (by omega))
      have HM : Hid (vl 10 xs % vl 10 ys < vl 10 ys) := Nat.mod_lt _ (by omega)
      have HY : Hid (vl 10 (rdN wr (.slice B ys.length d)) = vl 10 ys) := by show _ = _; rw [rdN_of hF'.sl]
      clear h0 hb0 hg
      go_wp2_with (first
        | (go_at_call 143; refine HZ.out.mono ?_; rintro e w4 ⟨rfl, rfl⟩)
        | (go_at_call 144; refine HDV.out.mono ?_; rintro e w5 ⟨A1, c1, qs, A2, c2, rs, rfl, k1, k2, k3, k4, k5, k6, k7, k8, k9⟩; have K4 := Lib.hid k4; have K8 := Lib.hid k8; clear k1 k3 k4 k7 k8))
      go_roundw
      case rel => exact ⟨B, d, ys, A2, c2, rs, rfl, rfl, hF'.below k9, k2, hd', K4, hl', by omega, by rw [K8.out]; exact HG, hbel.trans (k9.mono hbel.size)⟩
      case measure => rw [HY.out]; show vl 10 (rdN _ (.slice A2 rs.length c2)) < _; rw [rdN_of k2.sl, K8.out]; exact HM.out
set_option maxRecDepth 100000 in
set_option maxHeartbeats 800000 in
theorem refGcd_err (s t : ByteArray) (hs : s.size ≤ 1099511627776) (ht : t.size ≤ 1099511627776) (h : ¬ bothE s.data.toList t.data.toList = 0) (w : World) :
    Calls Tryz.prog 107 #[.string s, .string t] w fun e w' => e = .returned (.tuple #[.string ⟨#[]⟩, .int .i64 (bothE s.data.toList t.data.toList)]) ∧ Below w.heap.size w w' := by
  have HB := Lib.hid (both_any s t hs ht w)
  obtain ⟨x, hx⟩ : ∃ x, bothE s.data.toList t.data.toList = x := ⟨_, rfl⟩
  rw [hx] at HB h ⊢
  have h1 : (x == 0) = false := by rw [beq_eq_false_iff_ne]; exact h
  have h2 : (x != 0) = true := by rw [bne_iff_ne]; exact h
  clear h hx
  go_enter Tryz.func107, Tryz.ntmps107
  go_wp2_with (go_at_call 142; refine HB.out.mono ?_; rintro e w1 ⟨rfl, hb1⟩)
  go_ret2
  exact ⟨rfl, hb1⟩
theorem num_natAbs (l : List UInt8) : (num l).natAbs = vl 10 (dgs (bod l)) := by rw [num_sgn, sgn_natAbs]
theorem refGcd_any (s t : ByteArray) (hs : s.size ≤ 1099511627776) (ht : t.size ≤ 1099511627776) (w : World) :
    Calls Tryz.prog 107 #[.string s, .string t] w fun e w' => e = .returned (.tuple #[.string ⟨(gcS s.data.toList t.data.toList).1.toArray⟩, .int .i64 (gcS s.data.toList t.data.toList).2]) ∧ Below w.heap.size w w' := by
  by_cases h : bothE s.data.toList t.data.toList = 0
  · obtain ⟨h1, h2⟩ := bothE_zero h
    rw [gcS_ok h, num_natAbs, num_natAbs]
    exact refGcd_ok s t h1 h2 _ rfl w
  · rw [gcS_err h]
    exact refGcd_err s t hs ht h w
end Go.Proofs.YtbfimfjhdbpenaaGreatDoor
/- The walks of layer 1: the division of magnitudes. -/
namespace Go.Proofs.YtbfimfjhdbpenaaGreatDoor
open Go Go.RowKit
def DivR (w : World) (X V N : Nat) (e : Ending) (w' : World) : Prop := ∃ A1 c1 qs A2 c2 rs, e = .returned (.tuple #[.slice A1 qs.length c1, .slice A2 rs.length c2]) ∧ SlA encU w' A1 qs ∧ SlA encU w' A2 rs ∧ Nrm qs ∧ Nrm rs ∧
  vl 1000000000 qs = X / V ∧ vl 1000000000 rs = X % V ∧ qs.length ≤ N ∧ rs.length ≤ N ∧ Below w.heap.size w w'
theorem own_only {w w' : World} {base e g g' n : Nat} {xs : List Value} (h : w.ownsRow base e 1 (.slice (some ⟨g, 0, none⟩) n n) n xs) (ho : Only g' w w') (hne : g ≠ g') (hn : n ≤ maxLen) : w'.ownsRow base e 1 (.slice (some ⟨g, 0, none⟩) n n) n xs := by
  obtain ⟨h1, h2, h3⟩ := own_row h
  exact row_own ((ho g hne).trans h1) h2 h3 hn
theorem add_mid' (b o j : Nat) : (⟨b, o, none⟩ : Addr).add j = ⟨b, o + j, none⟩ := by unfold Addr.add; split <;> simp_all
theorem copy_src {w : World} {A : Option Addr} {xs : List Nat} (hA : SlA encU w A xs) (h : 0 < (xs.map encU).length) : ∃ ad, A = some ad ∧ ∀ j v, (xs.map encU)[j]? = some v → w.cell? (ad.add j) = some v := by
  obtain ⟨b, o, rfl, _, hc⟩ := hA.all (by intro h0; rw [h0] at h; simp at h)
  refine ⟨_, rfl, fun j v hv => ?_⟩
  rw [List.getElem?_map] at hv
  rw [add_mid']
  cases hx : xs[j]? with
  | none => rw [hx] at hv; cases hv
  | some x =>
    rw [hx] at hv
    obtain ⟨hl, rfl⟩ := List.getElem?_eq_some_iff.1 hx
    rw [hc j hl]; exact hv
theorem splice_zero (xs : List Nat) : splice ((List.replicate (xs.length + 1) 0).map encU) 0 (xs.map encU) = (xs ++ [0]).map encU := by
  simp [splice, List.drop_replicate, List.map_append]
theorem set_lt {B i v : Nat} {qs : List Nat} (h : ∀ t, qs.getD t 0 < B) (hv : v < B) (j : Nat) : (qs.set i v).getD j 0 < B := by
  rw [getD_set]; split
  · exact hv
  · exact h j
set_option maxRecDepth 100000 in
set_option maxHeartbeats 3200000 in
theorem divide_any (A B : Option Addr) (ca cb : Nat) (xs ys : List Nat) (w : World) (hA : SlA encU w A xs) (hB : SlA encU w B ys) (ha : ∀ d ∈ xs, d < 1000000000) (hb : ∀ d ∈ ys, d < 1000000000) (hla : xs.length ≤ 1048576) (hlb : ys.length ≤ 1048576) (hy0 : ys ≠ []) (ty : ys.getD (ys.length - 1) 0 ≠ 0) :
    Calls Tryz.prog 184 #[.slice A xs.length ca, .slice B ys.length cb] w (DivR w (vl 1000000000 xs) (vl 1000000000 ys) (xs.length + 1)) := by
  obtain ⟨i0, hi, hz0, hz1, hz2⟩ := info_parts Tryz.infoU
  obtain ⟨N, hN⟩ : ∃ N : Nat, max ((xs.length : Int) - (ys.length : Int) + 1) 0 = (N : Int) := ⟨(max ((xs.length : Int) - (ys.length : Int) + 1) 0).toNat, by omega⟩
  have hNb : N ≤ 1048577 := by omega
  go_enter Tryz.func184, Tryz.ntmps184
  go_wp2_with (first
    | (at_make; refine wpList_make_full _ rfl _ _ 160 rfl w.heap.size 201 i0 (.int .u32 0) 1 Tryz.underlying160 hi hz0 hz1 _ _ _ _ (xs.length + 1) rfl rfl (by omega) (by omega) (by rw [hz2]; omega) (by unfold maxLen; omega) (Nat.le_refl _) ?_; intro w1 hown hg1
       rw [zerosU] at hown
       have hb1 : Below w.heap.size w w1 := (Below.refl _ _).grown hg1 (Nat.le_refl _) (fun k hk => by cases hk)
       obtain ⟨r1, r2, r3⟩ := own_row hown
       have HA1 := Lib.hid (hA.below hb1)
       have R1 := Lib.hid r1
       clear hown hg1 r1 r2 r3)
    | (refine wpList_copy_splice (o := ⟨some 15, _, _, _, _, _⟩) rfl (.tmp 13) (.tmp 14) 160 160 rfl 201 Tryz.underlying160 (by kernel_rfl) _ _ _ _ _ _ rfl rfl w.heap.size 0 _ 201 R1.out (xs.map encU) (by simp) (fun h => ⟨rfl, copy_src HA1.out h⟩) (by simp) (by intro v hv; obtain ⟨x, _, rfl⟩ := List.mem_map.1 hv; rfl) w.heap.size w hb1 (Nat.le_refl _) ?_; intro w2 R2 hb2)
    | (at_make; refine wpList_make_full _ rfl _ _ 160 rfl w2.heap.size 201 i0 (.int .u32 0) 1 Tryz.underlying160 hi hz0 hz1 _ _ _ _ N rfl rfl rfl rfl (by rw [hz2]; omega) (by unfold maxLen; omega) (Nat.le_refl _) ?_; intro w3 hownQ hg2))
  rw [zerosU] at hownQ
  have hyl : 1 ≤ ys.length := List.length_pos_iff.2 hy0
  have hg0 : w.heap.size < w2.heap.size := lt_of_block R2.out
  have hb3 : Below w.heap.size w w3 := hb2.grown hg2 hb2.size (fun k hk => by cases hk)
  have hR3 : w3.ownsRow w.heap.size 201 1 (.slice (some ⟨w.heap.size, 0, none⟩) (xs.length + 1) (xs.length + 1)) (xs.length + 1) ((xs ++ [0]).map encU) := row_own ((hg2.block _ hg0 (by simp)).trans (by rw [← splice_zero]; exact R2.out)) (Nat.le_refl _) (by simp) (by unfold maxLen; omega)
  have hVge := vl_ge 1000000000 ys hy0 ty
  have HD := Lib.hid (DvInv.start 1000000000 (vl 1000000000 ys) N (by omega) xs ys ha hVge (by omega))
  clear hb1 HA1 R1 R2 hb2 hg2
  go_loopw [6] (fun ii wr => ∃ (j : Nat) (rs qs : List Nat), j ≤ N ∧ ii = .int .i64 ((j : Int) - 1) ∧ wr.ownsRow w.heap.size 201 1 (.slice (some ⟨w.heap.size, 0, none⟩) (xs.length + 1) (xs.length + 1)) (xs.length + 1) (rs.map encU) ∧
      wr.ownsRow w2.heap.size 201 1 (.slice (some ⟨w2.heap.size, 0, none⟩) N N) N (qs.map encU) ∧ Hid (DvInv 1000000000 (vl 1000000000 xs) (vl 1000000000 ys) rs qs j) ∧ Hid (∀ t, qs.getD t 0 < 1000000000) ∧ Below w.heap.size w wr) (fun ii _ => (intOf ii + 1).toNat)
  case atStart => exact ⟨N, _, _, Nat.le_refl _, rfl, hR3, hownQ, HD, fun t => by rw [zeros_getD]; omega, hb3⟩
  case round =>
    clear hR3 hownQ HD hb3
    obtain ⟨j, rs, qs, hj, rfl, hown, hownQ, hinv, hql, hbel⟩ := hrel
    cases j with
    | zero =>
      have e0 : (((0 : Nat) : Int) - 1) = -1 := rfl
      rw [e0]
      have hrl : rs.length = xs.length + 1 := by have := hown.1; simpa using this
      have hqn : qs.length = N := by have := hownQ.1; simpa using this
      obtain ⟨f1, f2⟩ := hinv.out.last
      have HF1 := Lib.hid f1
      have HF2 := Lib.hid f2
      have HRL := Lib.hid (getD_lt 1000000000 rs hinv.out.rlt (by omega))
      have hSq : SlA encU wr (some ⟨w2.heap.size, 0, none⟩) qs := by
        obtain ⟨A1, c1, h1, _, hS⟩ := SlA.of_own hownQ
        injection h1 with h1
        rw [h1]; exact hS
      have hSr : SlA encU wr (some ⟨w.heap.size, 0, none⟩) rs := by
        obtain ⟨A1, c1, h1, _, hS⟩ := SlA.of_own hown
        injection h1 with h1
        rw [h1]; exact hS
      have HT1 := trim_any (some ⟨w2.heap.size, 0, none⟩) N qs wr hSq (by omega) (by unfold maxLen; omega)
      have HT2 := trim_any (some ⟨w.heap.size, 0, none⟩) (xs.length + 1) rs wr hSr (by omega) (by unfold maxLen; omega)
      rw [hqn] at HT1
      rw [hrl] at HT2
      have HT1 := Lib.hid HT1
      have HT2 := Lib.hid HT2
      have hql' : qs.length ≤ xs.length + 1 := by omega
      have hrl' : rs.length ≤ xs.length + 1 := by omega
      clear e0 hrl hqn hinv hown hownQ f1 f2
      go_wp2_with (first
        | (go_at_call 164; (with_reducible refine HT1.out.mono ?_); rintro e w8 ⟨z1, rfl, ht1, rfl⟩; have HTr1 := Lib.hid ht1; clear ht1)
        | (go_at_call 164; (with_reducible refine HT2.out.mono ?_); rintro e w9 ⟨z2, rfl, ht2, rfl⟩; have HTr2 := Lib.hid ht2; clear ht2))
      go_ret2
      exact ⟨_, _, z1, _, _, z2, rfl, hSq.trimmed HTr1.out, hSr.trimmed HTr2.out, Nrm.of hql.out HTr1.out, Nrm.of HRL.out HTr2.out, by rw [HTr1.out.2.1, HF1.out], by rw [HTr2.out.2.1, HF2.out], Nat.le_trans HTr1.out.len hql', Nat.le_trans HTr2.out.len hrl', hbel⟩
    | succ i =>
      have ej : ((i + 1 : Nat) : Int) - 1 = (i : Int) := by omega
      rw [ej]
      clear ej
      have hrl : rs.length = xs.length + 1 := by have := hown.1; simpa using this
      have hqn : qs.length = N := by have := hownQ.1; simpa using this
      have hil : i + (ys.length + 1) ≤ rs.length := by omega
      obtain ⟨pre, p, post, rfl, hpl, hpm⟩ : ∃ pre p post, rs = pre ++ p ++ post ∧ pre.length = i ∧ p.length = ys.length + 1 := ⟨_, _, _, part_split rs i (ys.length + 1) hil⟩
      subst hpl
      obtain ⟨k, hk⟩ : ∃ k, ys.length = k + 1 := ⟨ys.length - 1, by omega⟩
      have hpb : ∀ d ∈ p, d < 1000000000 := fun d hd => hinv.out.rlt d (by simp [hd])
      have hpg : ∀ t, p.getD t 0 < 1000000000 := getD_lt 1000000000 p hpb (by omega)
      have hVlt : vl 1000000000 ys < 1000000000 ^ (p.length - 1) := by rw [hpm, Nat.add_sub_cancel]; exact vl_lt 1000000000 ys hb
      obtain ⟨hlt, hpost⟩ := hinv.out.part (by omega) rfl hVlt (by omega)
      have hv1 : 1 ≤ ys.getD k 0 := by rw [hk, Nat.add_sub_cancel] at ty; omega
      obtain ⟨G1, G2, G3, G4⟩ := guess_okB 1000000000 (by omega) p ys k (by omega) hk hpb hb hv1 hlt
      have eu1 : p[ys.length]'(by omega) = p.getD (k + 1) 0 := by rw [List.getD_eq_getElem?_getD, ← hk, List.getElem?_eq_getElem (by omega)]; rfl
      have eu0 : p[k]'(by omega) = p.getD k 0 := by rw [List.getD_eq_getElem?_getD, List.getElem?_eq_getElem (by omega)]; rfl
      have ev1 : ys[k]'(by omega) = ys.getD k 0 := by rw [List.getD_eq_getElem?_getD, List.getElem?_eq_getElem (by omega)]; rfl
      have HG := Lib.hid (guess_any (some ⟨w.heap.size, pre.length, none⟩) B (xs.length + 1 - pre.length) cb p ys (ys.length + 1) ys.length k rfl hk hpm rfl wr (SlA.part hown) (hB.below hbel) hpb hb _ _ _ eu1 eu0 ev1 hv1 (by omega) G1)
      generalize ((p.getD (k + 1) 0 * 1000000000 + p.getD k 0) * 1000000000 + low p k) / (ys.getD k 0 * 1000000000 + low ys k) = t at HG G2 G3
      have htB : t ≤ 1000000000 := by omega
      have HTK := Lib.hid (fun W (hW : W.heap = wr.heap) (hbW : Below w.heap.size w W) => take_any w.heap.size w.heap.size (xs.length + 1) (xs.length + 1) (ys.length + 1) (xs.length + 1 - pre.length) pre p post ys hpm B cb t htB W (Nat.le_refl _) (by omega) (by omega) (row_own (by rw [hW]; exact (own_row hown).1) (Nat.le_refl _) (own_row hown).2.2 (by unfold maxLen; omega)) (fun W' h' => hB.below (hbW.trans h')) hb hpg)
      have hVpos : 0 < vl 1000000000 ys := Nat.lt_of_lt_of_le (Nat.pow_pos (by decide)) hVge
      have HST := Lib.hid (fun p' hb' hv' => hinv.out.step hVpos rfl hpost (by omega) p' hb' hv')
      have e0 : (0 : Int) ≤ (pre.length : Int) := by omega
      have e1 : (pre.length : Int) + (ys.length : Int) + 1 ≤ (xs.length : Int) + 1 := by omega
      have e2 : (pre.length : Int) ≤ (pre.length : Int) + (ys.length : Int) + 1 := by omega
      have em : pre.length + ys.length + 1 - pre.length = ys.length + 1 := by omega
      have e3 : (pre.length : Int) < (N : Int) := by omega
      have e4 : (t : Int) ≤ 1000000000 := by omega
      obtain ⟨q, hq⟩ : ∃ q, vl 1000000000 p / vl 1000000000 ys = q := ⟨_, rfl⟩
      rw [hq] at HST G2 G3
      have hpl : pre.length ≤ 1048577 := by omega
      have hHQ := Lib.hid (fun W (h : Only w.heap.size wr W) => own_only hownQ h (by omega) (by unfold maxLen; omega))
      have hqb : q < 1000000000 := by rw [← hq]; exact G4
      have HQN := Lib.hid hqn
      have HPM := Lib.hid hpm
      have HHK := Lib.hid hk
      have HHQ := Lib.hid hq
      have HGB := Lib.hid hb
      have hqs : pre.length < qs.length := by omega
      have hk' : k + 1 ≤ ys.length := by omega
      have hqb' : (q : Int) ≤ 999999999 := by omega
      by_cases htq : t = q
      · have HOK := Lib.hid (fun p' c (h : TkInv p ys t p' (ys.length + 1) c) => take_ok (1000000000 ^ (ys.length + 1)) (vl 1000000000 p) (vl 1000000000 ys) q t (vl 1000000000 p') c (by
          have := h.2.2.2.1
          rwa [vl_take_all _ p' _ (by have := h.1; omega), vl_take_all _ ys _ (by omega), vl_take_all _ p _ (by omega)] at this) (by
          have h3 := vl_lt 1000000000 p' (mem_getD p' _ fun t _ => h.2.1 t)
          rwa [h.1, hpm] at h3) hq.symm htq)
        subst htq
        clear hA hB ha hb hy0 ty hN hVge hown hownQ hrl hinv hk hpb hpg hVlt hlt hpost hv1 G1 G2 G3 G4 eu1 eu0 ev1 hVpos hq hqn hpm
        go_wp2_with (first
          | (go_at_call 193; refine HG.out.mono ?_; rintro e w4 ⟨rfl, dn, rfl⟩)
          | (go_at_call 194; refine (HTK.out (wr.drewN dn) rfl (below_drewN hbel dn)).mono ?_; rintro e w5 ⟨p', c, rfl, ho5, hk5, hb5, hn5⟩
             obtain ⟨hc0, hv5⟩ := HOK.out p' c hk5
             subst hc0
             have hq5 := hHQ.out w5 hn5
             have hc5 := own_cellU hq5 pre.length hqs
             have hf5 := hq5.frozenAt pre.length
             have HK5 := Lib.hid hk5
             have HV5 := Lib.hid hv5
             generalize qs.getD pre.length 0 = y at hc5
             clear hk5 hv5 HTK HG HOK))
        go_roundw
        case rel => exact ⟨pre.length, pre ++ p' ++ post, qs.set pre.length t, by omega, rfl, own_only ho5 ((Only.refl _ _).setCell _ _) (by omega) (by unfold maxLen; omega), own_setU hq5 pre.length t rfl, HST.out p' (mem_getD p' _ fun t _ => HK5.out.2.1 t) HV5.out, fun j => set_lt hql.out hqb j, ((below_drewN hbel dn).trans hb5).setCell (p := ⟨w2.heap.size, pre.length, none⟩) (Nat.le_of_lt hg0) _⟩
        case measure => simp [intOf]
      · have htq1 : t = q + 1 := by omega
        have HOK := Lib.hid (fun p' c (h : TkInv p ys t p' (ys.length + 1) c) => take_over (1000000000 ^ (ys.length + 1)) (vl 1000000000 p) (vl 1000000000 ys) q t (vl 1000000000 p') c (by
          have := h.2.2.2.1
          rwa [vl_take_all _ p' _ (by have := h.1; omega), vl_take_all _ ys _ (by omega), vl_take_all _ p _ (by omega)] at this) hVpos (by
          have h3 := vl_lt 1000000000 ys hb
          have h4 : 1000000000 ^ ys.length ≤ 1000000000 ^ (ys.length + 1) := Nat.pow_le_pow_right (by omega) (by omega)
          omega) (by
          have h3 := vl_lt 1000000000 p' (mem_getD p' _ fun t _ => h.2.1 t)
          rwa [h.1, hpm] at h3) hq.symm htq1)
        have HBW := Lib.hid (fun W (h : Below w.heap.size w W) => hB.below h)
        have HTQ := Lib.hid htq1
        have htt1 : (1 : Int) ≤ (t : Int) := by omega
        have hcp : pre.length + (ys.length + 1) ≤ xs.length + 1 := by omega
        clear hA hB ha hb hy0 ty hN hVge hown hownQ hrl hinv hk hpb hpg hVlt hlt hpost hv1 G1 G2 G3 G4 eu1 eu0 ev1 hVpos hq hqn hpm htq htq1
        go_wp2_with (first
          | (go_at_call 193; refine HG.out.mono ?_; rintro e w4 ⟨rfl, dn, rfl⟩)
          | (go_at_call 194; refine (HTK.out (wr.drewN dn) rfl (below_drewN hbel dn)).mono ?_; rintro e w5 ⟨p', c, rfl, ho5, hk5, hb5, hn5⟩
             obtain ⟨hc0, hv5⟩ := HOK.out p' c hk5
             subst hc0
             have hbl5 := (below_drewN hbel dn).trans hb5
             have hl5 : p'.length = ys.length + 1 := hk5.1.trans HPM.out
             have HRS := Lib.hid (restore_any w.heap.size w.heap.size (xs.length + 1) (xs.length + 1) (ys.length + 1) (xs.length + 1 - pre.length) pre p' post ys hl5 B cb w5 (Nat.le_refl _) (by omega) (by omega) ho5 (fun W' h' => HBW.out _ (hbl5.trans h')) HGB.out hk5.2.1)
             have HL5 := Lib.hid hl5
             have HV5 := Lib.hid hv5
             clear hk5 hv5 hl5 HTK HG HOK)
          | (go_at_call 195; refine HRS.out.mono ?_; rintro e w6 ⟨p6, c6, rfl, ho6, hk6, hb6, hn6⟩
             have hq6 := hHQ.out w6 (fun b hb => (hn6 b hb).trans (hn5 b hb))
             have hc6 := own_cellU hq6 pre.length hqs
             have hf6 := hq6.frozenAt pre.length
             have HV6 := Lib.hid (HV5.out (vl 1000000000 p6) c6 (by
               have := hk6.2.2.2.1
               rwa [vl_take_all _ p6 _ (by rw [hk6.1, HL5.out]; exact Nat.le_refl _), vl_take_all _ ys _ (Nat.le_succ _), vl_take_all _ p' _ (by rw [HL5.out]; exact Nat.le_refl _)] at this) (by
               have h3 := vl_lt 1000000000 p6 (mem_getD p6 _ fun t _ => hk6.2.1 t)
               rwa [hk6.1, HL5.out] at h3))
             have HK6 := Lib.hid hk6
             generalize qs.getD pre.length 0 = y at hc6
             clear hk6 HRS HV5))
        go_roundw
        case rel => exact ⟨pre.length, pre ++ p6 ++ post, qs.set pre.length q, by omega, rfl, own_only ho6 ((Only.refl _ _).setCell _ _) (by omega) (by unfold maxLen; omega), own_setU hq6 pre.length q (by rw [HTQ.out]; omega), HST.out p6 (mem_getD p6 _ fun t _ => HK6.out.2.1 t) HV6.out, fun j => set_lt hql.out hqb j, (hbl5.trans hb6).setCell (p := ⟨w2.heap.size, pre.length, none⟩) (Nat.le_of_lt hg0) _⟩
        case measure => simp [intOf]
end Go.Proofs.YtbfimfjhdbpenaaGreatDoor
/- The walks of layer 1: the program's Gcd. -/
namespace Go.Proofs.YtbfimfjhdbpenaaGreatDoor
open Go Go.RowKit
theorem rdN_ofU {w : World} {A : Option Addr} {xs : List Nat} {c : Nat} (h : SlA encU w A xs) : rdN w (.slice A xs.length c) = xs := by
  cases A with
  | none =>
    cases xs with
    | nil => rfl
    | cons x xs => obtain ⟨b, o, h1, _⟩ := h 0 x rfl; cases h1
  | some a =>
    refine List.ext_getElem (by simp [rdN]) fun j h1 h2 => ?_
    obtain ⟨b, o, e, _, hc⟩ := h.get h2
    injection e with e
    subst e
    simp only [rdN, List.getElem_map, List.getElem_range]
    unfold cellN; rw [hc]; rfl
theorem Nrm.len_le {xs ys : List Nat} (hx : Nrm xs) (hy : Nrm ys) (h : vl 1000000000 xs ≤ vl 1000000000 ys) : xs.length ≤ ys.length := by
  rcases Nat.lt_or_ge ys.length xs.length with hl | hl
  · have := cmp_len ys xs hy.lt hx.lt hx.top hl
    omega
  · exact hl
theorem Nrm.ne_of_pos {xs : List Nat} (h : 0 < xs.length) : xs ≠ [] := by rintro rfl; simp at h
theorem gcd_step {G x y : Nat} (h : Nat.gcd x y = G) : Nat.gcd y (x % y) = G := by
  rw [← h, Nat.gcd_comm y, ← Nat.gcd_rec, Nat.gcd_comm]
theorem field_size (m : Bool) (A : Option Addr) (n c : Nat) (w : World) : (Instr.field 162 (.agg #[.bool m, .slice A n c]) 1).run Tryz.prog w = .ok (.slice A n c) w := by kernel_rfl
section
variable (s t : ByteArray) (hs : s.size ≤ maxLen) (ht : t.size ≤ maxLen) (w : World) (hv : VarT w)
include hs ht hv
set_option maxRecDepth 100000 in
set_option maxHeartbeats 1600000 in
theorem gcd_any : Calls Tryz.prog 168 #[.string s, .string t] w fun e w' => e = .returned (.tuple #[.string ⟨(gcS s.data.toList t.data.toList).1.toArray⟩, .int .i64 (gcS s.data.toList t.data.toList).2]) ∧ Below w.heap.size w w' := by
  have CS := Lib.hid (fun W => check_any s W hs)
  have CT := Lib.hid (fun W => check_any t W ht)
  have HAL := Lib.hid (fun o => (Below.refl _ w).alloc (Nat.le_refl _) o)
  have HV := Lib.hid hv
  clear hv
  by_cases hb : bothE s.data.toList t.data.toList = 0
  · obtain ⟨hx, hy⟩ := bothE_zero hb
    have PS := Lib.hid (parse_r s hx)
    have PT := Lib.hid (parse_r t hy)
    rw [gcS_ok hb]
    rw [hx] at CS
    rw [hy] at CT
    obtain ⟨G, hG⟩ : ∃ G, Nat.gcd (num s.data.toList).natAbs (num t.data.toList).natAbs = G := ⟨_, rfl⟩
    have HG := Lib.hid hG
    rw [hG]
    generalize s.data.toList = ls at PS HG
    generalize t.data.toList = lt at PT HG
    clear hx hy hb hs ht hG
    have HO := Lib.hid (or_new 0 0 w)
    rw [if_pos rfl] at HO
    have hfd := field_size
    go_enter Tryz.func168, Tryz.ntmps168
    go_wp2_with (first
      | (go_at_call 118; (with_reducible refine (CS.out _).mono ?_); rintro e w1 ⟨rfl, rfl⟩)
      | (go_at_call 118; (with_reducible refine (CT.out _).mono ?_); rintro e w1 ⟨rfl, rfl⟩)
      | (go_at_call 117; refine (HO.out _).mono ?_; rintro e w1 ⟨rfl, rfl⟩)
      | (go_at_call 121; (with_reducible refine (PS.out _).mono ?_); rintro e w1 ⟨m1, A1, c1, xs, rfl, S1, N1, V1, L1, L1', C1, B1⟩)
      | (go_at_call 121; (with_reducible refine (PT.out _).mono ?_); rintro e w2 ⟨m2, A2, c2, ys, rfl, S2, N2, V2, L2, L2', C2, B2⟩
         have HGX : Hid (Nat.gcd (vl 1000000000 xs) (vl 1000000000 ys) = G) := by
           show _ = _
           rw [← HG.out, V1, V2, sgn_natAbs, sgn_natAbs]
         clear V1 V2))
    have HN1 := Lib.hid N1
    have HN2 := Lib.hid N2
    have S1' := S1.below B2
    have HB2 := bt (bt (HAL.out _) B1) B2
    clear N1 N2 S1 B1 B2 HG hfd
    go_loopw [7, 8] (fun x y wr => ∃ (A : Option Addr) (c : Nat) (xs : List Nat) (B : Option Addr) (d : Nat) (ys : List Nat), x = .slice A xs.length c ∧ y = .slice B ys.length d ∧ SlA encU wr A xs ∧ SlA encU wr B ys ∧ Hid (Nrm xs) ∧ Hid (Nrm ys) ∧
        xs.length ≤ 112 ∧ ys.length ≤ 112 ∧ Hid (Nat.gcd (vl 1000000000 xs) (vl 1000000000 ys) = G) ∧ Below w.heap.size w wr) (fun _ y wr => vl 1000000000 (rdN wr y))
    case atStart => exact ⟨A1, c1, xs, A2, c2, ys, rfl, rfl, S1', S2, HN1, HN2, L1, L2, HGX, HB2⟩
    case round =>
      clear S1' S2 HN1 HN2 L1 L2 HGX HB2 L1' L2' C1 C2
      obtain ⟨A, c, xs, B, d, ys, rfl, rfl, S1, S2, N1, N2, L1, L2, hg, hbel⟩ := hrel
      by_cases h0 : 0 < ys.length
      · have hne := Nrm.ne_of_pos h0
        have hp := N2.out.pos hne
        have HD := Lib.hid (divide_any A B c d xs ys wr S1 S2 N1.out.lt N2.out.lt (by omega) (by omega) hne (N2.out.top hne))
        have HY : Hid (vl 1000000000 (rdN wr (.slice B ys.length d)) = vl 1000000000 ys) := by show _ = _; rw [rdN_ofU S2]
        have HP := Lib.hid hp
        clear hne hp
        go_wp2_with (go_at_call 184; refine HD.out.mono ?_; rintro e w5 ⟨A5, c5, qs, A6, c6, rs, rfl, k1, k2, k3, k4, k5, k6, k7, k8, k9⟩; have K4 := Lib.hid k4; have K6 := Lib.hid k6; clear k1 k3 k4 k5 k6 k7 k8)
        go_roundw
        case rel => exact ⟨B, d, ys, A6, c6, rs, rfl, rfl, S2.below k9, k2, N2, K4, L2, Nat.le_trans (K4.out.len_le N2.out (by rw [K6.out]; exact Nat.le_of_lt (Nat.mod_lt _ HP.out))) L2, by rw [K6.out]; exact Lib.hid (gcd_step hg.out), hbel.trans (k9.mono hbel.size)⟩
        case measure => rw [HY.out]; show vl 1000000000 (rdN _ (.slice A6 rs.length c6)) < _; rw [rdN_ofU k2, K6.out]; exact Nat.mod_lt _ HP.out
      · have hy0 : ys = [] := List.eq_nil_of_length_eq_zero (by omega)
        subst hy0
        have HE : Hid (Lib.itoa (sgn false (vl 1000000000 xs)) = Lib.itoa (G : Int)) := by
          have := hg.out
          rw [show vl 1000000000 [] = 0 from rfl, Nat.gcd_zero_right] at this
          show _ = _
          rw [this]; rfl
        have HT := Lib.hid (text_of false A c xs wr S1 N1.out (by omega) (HV.out.below hbel))
        rw [HE.out] at HT
        rw [List.length_nil]
        go_wp2_with (go_at_call 176; refine HT.out.mono ?_; rintro e w5 ⟨rfl, k9⟩)
        go_ret2
        exact ⟨rfl, hbel.trans (k9.mono hbel.size)⟩
  · rw [gcS_err hb]
    unfold bothE at hb ⊢
    obtain ⟨x, hx⟩ : ∃ x, chk s.data.toList = x := ⟨_, rfl⟩
    obtain ⟨y, hy⟩ : ∃ y, chk t.data.toList = y := ⟨_, rfl⟩
    rw [hx] at CS hb ⊢
    rw [hy] at CT hb ⊢
    have HO := Lib.hid (or_new x y w)
    generalize (if x = 0 then y else x) = z at *
    have h1 : (z == 0) = false := by rw [beq_eq_false_iff_ne]; exact hb
    clear hx hy hs ht hb
    go_enter Tryz.func168, Tryz.ntmps168
    go_wp2_with (first
      | (go_at_call 118; (with_reducible refine (CS.out _).mono ?_); rintro e w1 ⟨rfl, rfl⟩)
      | (go_at_call 118; (with_reducible refine (CT.out _).mono ?_); rintro e w1 ⟨rfl, rfl⟩)
      | (go_at_call 117; refine (HO.out _).mono ?_; rintro e w1 ⟨rfl, rfl⟩))
    go_ret2
    exact ⟨rfl, HAL.out _⟩
end
end Go.Proofs.YtbfimfjhdbpenaaGreatDoor
/- The walks of layer 1: the program's DivMod. -/
namespace Go.Proofs.YtbfimfjhdbpenaaGreatDoor
open Go Go.RowKit
section
variable (s t : ByteArray) (hs : s.size ≤ maxLen) (ht : t.size ≤ maxLen) (w : World) (hv : VarT w)
include hs ht hv
end
end Go.Proofs.YtbfimfjhdbpenaaGreatDoor
/- Joined: IntL2g, IntF, IntF2, IntF3, IntL4g, IntF4, IntL5g, IntL6g, IntL7g, IntN. -/
/- Layer 1: Great of two strings. -/
namespace Go.Proofs.YtbfimfjhdbpenaaGreatDoor
open Go Go.RowKit
end Go.Proofs.YtbfimfjhdbpenaaGreatDoor
/- The walks of layer 1: what the laws share: op, fits. -/
namespace Go.Proofs.YtbfimfjhdbpenaaGreatDoor
open Go Go.RowKit
section
variable (s t : ByteArray) (hs : s.size ≤ maxLen) (ht : t.size ≤ maxLen) (w : World) (hv : VarT w)
include hs ht hv
end
end Go.Proofs.YtbfimfjhdbpenaaGreatDoor
/- The walks of layer 1: the chapter's examples. -/
namespace Go.Proofs.YtbfimfjhdbpenaaGreatDoor
open Go Go.RowKit
end Go.Proofs.YtbfimfjhdbpenaaGreatDoor
/- Layer 1: integers as their texts; the operations on them. -/
namespace Go.Proofs.YtbfimfjhdbpenaaGreatDoor
open Go Go.RowKit
def StrR (z : ByteArray) (w : World) (e : Ending) (w' : World) : Prop := e = .returned (.string z) ∧ Below w.heap.size w w'
section
variable {x y z : Int} (hx : x.natAbs < lim) (hy : y.natAbs < lim)
include hx hy
end
end Go.Proofs.YtbfimfjhdbpenaaGreatDoor
/- Layer 1: fits of two and three. -/
namespace Go.Proofs.YtbfimfjhdbpenaaGreatDoor
open Go Go.RowKit
end Go.Proofs.YtbfimfjhdbpenaaGreatDoor
/- Layer 1: the operations on integers as their texts: DivMod, Gcd, Compare. -/
namespace Go.Proofs.YtbfimfjhdbpenaaGreatDoor
open Go Go.RowKit
section
variable {x y : Int} (hx : x.natAbs < lim) (hy : y.natAbs < lim)
include hx hy
end
end Go.Proofs.YtbfimfjhdbpenaaGreatDoor
/- Layer 1: comparing. -/
namespace Go.Proofs.YtbfimfjhdbpenaaGreatDoor
open Go Go.RowKit
end Go.Proofs.YtbfimfjhdbpenaaGreatDoor
/- Layer 1: comparing, more. -/
namespace Go.Proofs.YtbfimfjhdbpenaaGreatDoor
open Go Go.RowKit
end Go.Proofs.YtbfimfjhdbpenaaGreatDoor
/- Layer 1: common divisors. -/
namespace Go.Proofs.YtbfimfjhdbpenaaGreatDoor
open Go Go.RowKit
end Go.Proofs.YtbfimfjhdbpenaaGreatDoor
/- Layer 1: integers of nines. -/
namespace Go.Proofs.YtbfimfjhdbpenaaGreatDoor
open Go Go.RowKit
end Go.Proofs.YtbfimfjhdbpenaaGreatDoor

/- Layer 7: the walk of MoneySplits. -/
import Derived.Test.YtalnfbgaiegicaaMpX
import Derived.ChangeSlices
import Derived.WideShapes
import Derived.Laws.AppendOwn
import Derived.Laws.AppendOwnNone
namespace Go.Proofs.Ytalnfbgaiegicaa
open Go Go.RowKit

/-- A list that is read, appended to a row of the call's own. -/
theorem wpList_appY {P : Program} {ops : Array Oper} {rest : List Oper} {o : Oper} {a : Act} {Q : Exit → Act → World → Prop} {w : World} {base : Nat} {e : TypeId} {v : Value} {n : Nat} {xs : List Value} (hown : w.ownsRow base e 1 v n xs)
    (A : Option Addr) (ys : List Int) (m c : Nat) (hm : ys.length = m) (hS : HsA w A ys) (hA0 : A = none → c = 0) (hgd : o.guard = none) (s y : Operand) (t : TypeId)
    (ho : o.op = .call { callee := .builtin .append, args := #[s, y], argTypes := #[t, t] })
    (i : TypeInfo) (z : Value) (bytes : Nat) (ht : P.underlying t = some (.slice e)) (hi : P.info? e = some i) (hz : i.zero = some z)
    (hsize : i.size = 1) (hby : i.bytes = bytes) (hzs : z.cells.size = 1)
    (hs : a.eval s = v) (hx : a.eval y = .slice A m c) (h63 : n + m ≤ maxLen) (hbytes : (n + m) * bytes ≤ 140737488355328) (hbase : base ≤ w.heap.size)
    (h : ∀ v' w', w'.ownsRow base e 1 v' (n + m) (xs ++ ys.map encM) → Below base w w' → wpList P ops Q rest (a.put o.dst v') w') : wpList P ops Q (o :: rest) a w := by
  cases A with
  | none =>
    have h0 : ys = [] := by
      rcases hS with h | ⟨b, o, h1, _⟩
      · exact h
      · cases h1
    subst h0
    have hm0 : m = 0 := by simpa using hm.symm
    subst hm0
    rw [hA0 rfl] at hx
    refine wpList_append_own_none hgd s y t ho base e i 1 ht hi v n xs hs hown hx ?_
    exact h v w (by simpa using hown) (Below.refl _ _)
  | some ad =>
    refine wpList_append_own w hgd s y t ho base e i z 1 bytes ht hi hz hsize hby hzs (by decide) v n xs hs hown ad m c (ys.map encM) hx (by simp [hm]) ?_ ?_ h63 hbytes hbase ?_
    · intro j u hj
      rw [List.getElem?_map] at hj
      cases hyj : ys[j]? with
      | none => rw [hyj] at hj; cases hj
      | some x =>
        rw [hyj] at hj
        have hlt := (List.getElem?_eq_some_iff.1 hyj).1
        obtain ⟨b, o', h1, _, h3⟩ := hS.get hlt
        injection h1 with h1
        subst h1
        have : (⟨b, o', none⟩ : Addr).add j = ⟨b, o' + j, none⟩ := by unfold Addr.add; split <;> simp_all
        rw [this, h3 j hlt, List.getD_eq_getElem?_getD, hyj]; exact hj
    · intro u hu
      obtain ⟨x, _, rfl⟩ := List.mem_map.1 hu
      rfl
    · intro v' w' h2 h3 _
      exact h v' w' h2 ((Below.refl _ _).grown h3 hbase fun k hk => (hown.lt k hk).1)
theorem rsplit_no (t : Int) (A : Option Addr) (c : Nat) (ws : List Int) (hE : spE t ws ≠ 0) (w : World) (hA : HsA w A ws) :
    Calls Try.prog 5 #[.int .i64 t, .slice A ws.length c] w (DtsM [] 2 w) := by
  cases ht : amB t
  · exact rsplit_bad t A c ws.length w (.inl ht)
  by_cases h0 : ws.length < 1
  · exact rsplit_bad t A c ws.length w (.inr ⟨ht, .inl h0⟩)
  by_cases h1 : 100 < ws.length
  · exact rsplit_bad t A c ws.length w (.inr ⟨ht, .inr ⟨by omega, h1⟩⟩)
  refine rsplit_wgt t A c ws ws.length rfl (by omega) (by omega) (wgt ws) (fun _ => rfl) w hA ht ?_
  by_cases hall : ∃ k, k < ws.length ∧ wgB (wgt ws k) = false
  · exact .inl hall
  · have h3 : ∀ k, k < ws.length → wgB (wgt ws k) = true := fun k hk => by
      cases hw : wgB (wgt ws k)
      · exact absurd ⟨k, hk, hw⟩ hall
      · rfl
    refine .inr ⟨h3, Classical.byContradiction fun h => hE (spE_good t ws ht (by omega) h3 h)⟩
theorem rsplit_yes (t : Int) (A : Option Addr) (c : Nat) (ws : List Int) (hE : spE t ws = 0) (w : World) (hA : HsA w A ws) :
    Calls Try.prog 5 #[.int .i64 t, .slice A ws.length c] w (RSpR t ws w) := by
  obtain ⟨ht, n0, n1, hw, hW⟩ := sp_parts hE
  have h := (amB_iff t).2 ht
  have hwb : ∀ k, k < ws.length → wgB (wgt ws k) = true := fun k hk => by
    have := hw k hk
    unfold wgB
    rw [Bool.and_eq_true, decide_eq_true_eq, decide_eq_true_eq]
    exact this
  by_cases h0 : t < 0
  · exact rsplit_neg t A c ws ws.length rfl n0 n1 (wgt ws) rfl w hA h hwb (show wgS ws ≠ 0 by omega) _ _ rfl rfl h0
  · exact rsplit_pos t A c ws ws.length rfl n0 n1 (wgt ws) rfl w hA h hwb (show wgS ws ≠ 0 by omega) _ _ rfl rfl (by omega)
def BoY (b : Bool) (w : World) (e : Ending) (w' : World) : Prop := e = .returned (.bool b) ∧ Below w.heap.size w w'
section
set_option maxRecDepth 1000000
set_option maxHeartbeats 16000000
theorem splits_big (t : Int) (A B : Option Addr) (c n d m : Nat) (hb : 200 < n ∨ n ≤ 200 ∧ 6000 < m) (w : World) :
    Calls Try.prog 3 #[.int .i64 t, .slice A n c, .slice B m d] w (BoY true w) := by
  rcases hb with hb | ⟨h1, hb⟩
  · have h1 : (200 : Int) < (n : Int) := by omega
    clear hb
    go_enter Try.func3, Try.ntmps3
    go_wp2
    go_ret
    exact ⟨rfl, Below.refl _ _⟩
  · have h2 : ¬ (200 : Int) < (n : Int) := by omega
    have h3 : (6000 : Int) < (m : Int) := by omega
    clear hb h1
    go_enter Try.func3, Try.ntmps3
    go_wp2
    go_ret
    exact ⟨rfl, Below.refl _ _⟩
theorem splits_walk (t : Int) (A B : Option Addr) (c d n m : Nat) (ws l : List Int) (hn : ws.length = n) (hm : l.length = m) (hn2 : n ≤ 200) (hm2 : m ≤ 6000) (w : World) (hA : HsA w A ws) (hB : HsA w B l) (hA0 : A = none → c = 0) :
    Calls Try.prog 3 #[.int .i64 t, .slice A n c, .slice B m d] w (BoY true w) := by
  have h2 : ¬ (200 : Int) < (n : Int) := by omega
  have h3 : ¬ (6000 : Int) < (m : Int) := by omega
  have HA := Lib.hid hA
  have HB := Lib.hid hB
  have HN := Lib.hid hn
  have HM := Lib.hid hm
  have HA0 := Lib.hid hA0
  obtain ⟨i0, hi, hz0, hz1, hz2⟩ : ∃ i0, Try.prog.info? 3 = some i0 ∧ i0.zero = some (.int .i64 0) ∧ i0.size = 1 ∧ i0.bytes = 8 := by
    have := infoM
    cases h : Try.prog.info? 3 with
    | none => rw [h] at this; cases this
    | some i0 =>
      rw [h] at this
      simp only [Option.map_some, Option.some.injEq, Prod.mk.injEq] at this
      exact ⟨i0, rfl, this.1, this.2.1, this.2.2⟩
  have HS : Hid (∀ W, Below w.heap.size w W → Calls Try.prog 6 #[.slice B m d] W fun e w' => e = .returned (.tuple #[.int .i64 (suV l), .int .i64 (suE l)]) ∧ W = w') := fun W hb => by
    rw [← hm]; exact psum_any B d l W (hB.below hb)
  have HR : Hid (∀ W, Below w.heap.size w W → Calls Try.prog 7 #[.slice B m d] W fun e w' => e = .returned (.tuple #[.int .i64 (suV l), .int .i64 (suE l)]) ∧ W = w') := fun W hb => by
    rw [← hm]; exact rsum7_any B d l (by omega) W (hB.below hb)
  have HP : Hid (∀ W, Below w.heap.size w W → Calls Try.prog 4 #[.int .i64 t, .slice A n c] W (SplR t ws W)) := fun W hb => by
    rw [← hn]; exact psplit_any t A c ws W (hA.below hb)
  have HQ : Hid (spE t ws ≠ 0 → ∀ W, Below w.heap.size w W → Calls Try.prog 5 #[.int .i64 t, .slice A n c] W (DtsM [] 2 W)) := fun hE W hb => by
    rw [← hn]; exact rsplit_no t A c ws hE W (hA.below hb)
  have HQ0 : Hid (spE t ws = 0 → ∀ W, Below w.heap.size w W → Calls Try.prog 5 #[.int .i64 t, .slice A n c] W (RSpR t ws W)) := fun hE W hb => by
    rw [← hn]; exact rsplit_yes t A c ws hE W (hA.below hb)
  have q1 : (suV l == suV l) = true := by simp
  have q2 : (suE l == suE l) = true := by simp
  clear hA hB hn hm hA0
  go_enter Try.func3, Try.ntmps3
  go_wp2_with (at_builtin; refine wpList_appY (World.ownsRow_lit w #[] 0 (Nat.le_refl _) (by decide) rfl) A ws n c HN.out (HA.out.below (belM w _)) HA0.out rfl _ _ 22 rfl i0 (.int .i64 0) 8 Try.underlying22 hi hz0 hz1 hz2 rfl rfl rfl (by unfold maxLen; omega) (by omega) (by simp) ?_; intro v' w2 hown hb; rw [List.nil_append] at hown; obtain ⟨A7, c7, rfl, -, hs7, -, -, -⟩ := of_ownM hown; have H7 := Lib.hid hs7; have B2 := Lib.hid ((belM w _).trans hb); clear hown hb hs7)
  by_cases hE : spE t ws = 0
  · refine (HP.out w2 B2.out).mono ?_
    rintro e w3 (⟨h1, -⟩ | ⟨-, b, C, rfl, ho, hb, hc⟩)
    · rw [hE] at h1; cases h1
    have B3 := Lib.hid (btM B2.out hb)
    have HB23 := Lib.hid hb
    have HO := Lib.hid ho
    have HC := Lib.hid hc
    have J5 := Lib.hid (HQ0.out hE w3 B3.out)
    clear HP HQ HQ0 ho hb hc hE
    go_wp2_with fail
    refine J5.out.mono ?_
    rintro e w4 ⟨b2, cap2, C2, rfl, hs, hc2, hb⟩
    have B4 := Lib.hid (btM B3.out hb)
    have HB24 := Lib.hid (btM HB23.out hb)
    have HO4 := Lib.hid (own_belM HO.out hb)
    rw [← spL_uniq HC.out hc2] at hs
    have J8 := Lib.hid (sameInts_anyM (some ⟨b, 0, none⟩) (some ⟨b2, 0, none⟩) ws.length cap2 (spL t ws C) (spL t ws C) true (decide_eq_true rfl) (by rw [spL_len, HN.out]; omega) w4 (hsA_ownX HO4.out) hs)
    rw [spL_len, HN.out] at J8
    have HSL : Hid ((spL t ws C).length = n) := by show _ = _; rw [spL_len]; exact HN.out
    rw [HN.out] at HO4 ⊢
    have W1 := Lib.hid (fun W (hb : Below w2.heap.size w2 W) => sameInts_anyM A A7 c c7 ws ws true (decide_eq_true rfl) (by rw [HN.out]; omega) W (HA.out.below (btM B2.out hb)) (H7.out.below hb))
    rw [HN.out] at W1
    clear hs hb hc2 HC J5 HO B3 HB23 HA H7 HN
    go_wp2_with (first
      | (go_at_call 6; ((with_reducible refine (HS.out _ B4.out).mono ?_); rintro e u1 ⟨rfl, rfl⟩))
      | (go_at_call 7; ((with_reducible refine (HR.out _ B4.out).mono ?_); rintro e u2 ⟨rfl, rfl⟩))
      | (go_at_call 8; ((with_reducible refine J8.out.mono ?_); rintro e w5 ⟨rfl, b⟩; have b5 := b; have B5 := Lib.hid (btM B4.out b); clear b)))
    have HO5 := Lib.hid (own_belM HO4.out b5)
    have HB25 := Lib.hid (btM HB24.out b5)
    generalize spL t ws C = L at *
    clear b5 HO4 HB24 J8 B4 B5 HS HR
    go_loopw [17] (fun i wr => ∃ (k : Nat) (L' : List Int), k ≤ n ∧ i = .int .i64 k ∧ Hid (L'.length = n) ∧ Hid (wr.ownsRow w2.heap.size 3 1 (.slice (some ⟨b, 0, none⟩) n n) n (L'.map encM)) ∧ Hid (Below w2.heap.size w2 wr)) (fun i _ => n - (intOf i).toNat)
    case atStart => exact ⟨0, L, by omega, rfl, HSL, HO5, HB25⟩
    case round =>
      clear HSL HO5 HB25
      obtain ⟨k, L', hk, rfl, hl', ho, hb⟩ := hrel
      by_cases hlt : k < n
      · have ca := own_cellM ho.out k (by rw [hl'.out]; exact hlt)
        have fa := ho.out.frozenAt k
        have hk1 : (k : Int) < (n : Int) := by omega
        have O2 := Lib.hid (own_setM ho.out k (-7))
        have B6 := Lib.hid (hb.out.setCell (p := ⟨b, k, none⟩) (own_ltM ho.out).1 (.int .i64 (-7)))
        have HL2 : Hid ((L'.set k (-7)).length = n) := by show _ = _; rw [List.length_set]; exact hl'.out
        generalize L'.getD k 0 = v at *
        clear ho hb hl' hlt
        go_wp2
        go_roundw
        case rel => exact ⟨k + 1, L'.set k (-7), by omega, by go_num, HL2, O2, B6⟩
        case measure => simp [intOf]; omega
      · obtain rfl : k = n := by omega
        have J9 := Lib.hid (W1.out wr hb.out)
        have B6 := Lib.hid (btM B2.out hb.out)
        clear ho hl' hb W1 hlt
        go_wp2_with (go_at_call 8; ((with_reducible refine J9.out.mono ?_); rintro e w6 ⟨rfl, b⟩; have B7 := Lib.hid (btM B6.out b); clear b))
        go_ret
        exact ⟨rfl, B7.out⟩
  · refine (HP.out w2 B2.out).mono ?_
    rintro e w3 (⟨-, rfl, hb⟩ | ⟨h1, -⟩)
    · have B3 := Lib.hid (btM B2.out hb)
      have HB23 := Lib.hid hb
      have J5 := Lib.hid (HQ.out hE w3 B3.out)
      clear HP HQ HQ0 hb hE
      go_wp2_with fail
      refine J5.out.mono ?_
      rintro e w4 ⟨A8, c8, rfl, hs, -, -, -, hb⟩
      have B4 := Lib.hid (btM B3.out hb)
      have HB24 := Lib.hid (btM HB23.out hb)
      have J8 := Lib.hid (sameInts_anyM none A8 0 c8 [] [] true (decide_eq_true rfl) (by simp) w4 (.inl rfl) hs)
      have W1 := Lib.hid (fun W (hb : Below w2.heap.size w2 W) => sameInts_anyM A A7 c c7 ws ws true (decide_eq_true rfl) (by rw [HN.out]; omega) W (HA.out.below (btM B2.out hb)) (H7.out.below hb))
      rw [HN.out] at W1
      rw [show ([] : List Int).length = 0 from rfl] at J8 ⊢
      clear hs hb J5 B3 HB23 HA H7 HN
      go_wp2_with (first
      | (go_at_call 6; ((with_reducible refine (HS.out _ B4.out).mono ?_); rintro e u1 ⟨rfl, rfl⟩))
      | (go_at_call 7; ((with_reducible refine (HR.out _ B4.out).mono ?_); rintro e u2 ⟨rfl, rfl⟩))
      | (go_at_call 8; ((with_reducible refine J8.out.mono ?_); rintro e w5 ⟨rfl, b⟩; have b5 := b; have B5 := Lib.hid (btM B4.out b); clear b)))
      have HB25 := Lib.hid (btM HB24.out b5)
      clear b5 HB24 J8 B4 B5 HS HR
      go_loopw [17] (fun i wr => i = .int .i64 0 ∧ Hid (Below w2.heap.size w2 wr)) (fun i _ => 0)
      case atStart => exact ⟨rfl, HB25⟩
      case round =>
        clear HB25
        obtain ⟨rfl, hb⟩ := hrel
        have J9 := Lib.hid (W1.out wr hb.out)
        have B6 := Lib.hid (btM B2.out hb.out)
        clear hb W1
        go_wp2_with (go_at_call 8; ((with_reducible refine J9.out.mono ?_); rintro e w6 ⟨rfl, b⟩; have B7 := Lib.hid (btM B6.out b); clear b))
        go_ret
        exact ⟨rfl, B7.out⟩
    · exact absurd h1 hE
end
theorem splits_law (t : Int) (A B : Option Addr) (c d : Nat) (ws l : List Int) (w : World) (hA : HsA w A ws) (hB : HsA w B l) (hA0 : A = none → c = 0) :
    Calls Try.prog 3 #[.int .i64 t, .slice A ws.length c, .slice B l.length d] w (BoY true w) := by
  by_cases h1 : ws.length ≤ 200
  · by_cases h2 : l.length ≤ 6000
    · exact splits_walk t A B c d ws.length l.length ws l rfl rfl h1 h2 w hA hB hA0
    · exact splits_big t A B c _ d _ (.inr ⟨h1, by omega⟩) w
  · exact splits_big t A B c _ d _ (.inl (by omega)) w
end Go.Proofs.Ytalnfbgaiegicaa

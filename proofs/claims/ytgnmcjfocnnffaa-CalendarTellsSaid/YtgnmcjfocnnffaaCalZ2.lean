/- Layer 4: the reference's Join: the holidays of both. -/
import Derived.Test.YtgnmcjfocnnffaaCalZ1
namespace Go.Proofs.Ytgnmcjfocnnffaa
open Go Go.RowKit

/-- One element appended to a row of the call's own: the element has just been laid in a block of one cell. -/
theorem wpList_appOne {P : Program} {ops : Array Oper} {rest : List Oper} {o : Oper} {a : Act} {Q : Exit → Act → World → Prop} {w : World} {base : Nat} {e : TypeId} {v : Value} {n : Nat} {xs : List Value} (hown : w.ownsRow base e 1 v n xs) (x : Value) (hgd : o.guard = none) (s y : Operand) (t : TypeId)
    (ho : o.op = .call { callee := .builtin .append, args := #[s, y], argTypes := #[t, t] })
    (i : TypeInfo) (z : Value) (bytes : Nat) (ht : P.underlying t = some (.slice e)) (hi : P.info? e = some i) (hz : i.zero = some z)
    (hsize : i.size = 1) (hby : i.bytes = bytes) (hzs : z.cells.size = 1)
    (hs : a.eval s = v) (hx : a.eval y = .slice (some ⟨w.heap.size, 0, none⟩) 1 1) (h1 : x.oneCell' = true) (h63 : n + 1 ≤ maxLen) (hbytes : (n + 1) * bytes ≤ 140737488355328) (hbase : base ≤ w.heap.size)
    (h : ∀ v' w', w'.ownsRow base e 1 v' (n + 1) (xs ++ [x]) → Below base w w' → wpList P ops Q rest (a.put o.dst v') w') : wpList P ops Q (o :: rest) a (w.alloc (.cells #[x] e)) := by
  refine wpList_append_own (w.alloc (.cells #[x] e)) hgd s y t ho base e i z 1 bytes ht hi hz hsize hby hzs (by decide) v n xs hs (hown.alloc _) ⟨w.heap.size, 0, none⟩ 1 1 [x] hx rfl ?_ ?_ h63 hbytes (by simp; omega) ?_
  · intro j u hj
    match j, hj with
    | 0, hj =>
      obtain rfl : x = u := by simpa using hj
      simp [Addr.add]
  · intro u hu
    obtain rfl : u = x := by simpa using hu
    exact h1
  · intro v' w' h2 h3 _
    exact h v' w' h2 (((Below.refl _ _).alloc hbase _).grown h3 (by simp; omega) fun k hk => (hown.lt k hk).1)
theorem HsA.at {w : World} {b o : Nat} {hs : List Int} (h : HsA w (some ⟨b, o, none⟩) hs) {j : Nat} (hj : j < hs.length) : w.cell? ⟨b, o + j, none⟩ = some (.int .i64 (hs.getD j 0)) := by
  obtain ⟨b', o', e, _, h3⟩ := h.get hj
  injection e with e
  obtain ⟨rfl, rfl⟩ : b = b' ∧ o = o' := by injection e with e1 e2; exact ⟨e1, e2⟩
  exact h3 j hj
theorem own_one {w : World} {base : Nat} {e : TypeId} {v : Value} {out : List Int} {x : Int} (h : w.ownsRow base e 1 v (out.length + 1) (out.map encZ ++ [.int .i64 x])) : w.ownsRow base e 1 v (out ++ [x]).length ((out ++ [x]).map encZ) := by
  rw [List.map_append, List.length_append]; exact h

theorem own_two {w : World} {base : Nat} {e : TypeId} {A : Option Addr} {c : Nat} {out : List Int} {x : Int} {L : List Value} (h : w.ownsRow base e 1 (.slice A (out ++ [x]).length c) (out ++ [x]).length L) : w.ownsRow base e 1 (.slice A (out.length + 1) c) (out ++ [x]).length L := by
  have e : (out ++ [x]).length = out.length + 1 := by simp
  rw [e] at h ⊢
  exact h

set_option maxRecDepth 100000 in
set_option maxHeartbeats 6400000 in
theorem rjoin_merge (we1 : Int) (A1 : Option Addr) (c1 : Nat) (hs1 : List Int) (we2 : Int) (A2 : Option Addr) (c2 : Nat) (hs2 : List Int) (w : World) (h1 : CalIn w we1 A1 c1 hs1) (h2 : CalIn w we2 A2 c2 hs2) (hv1 : we1 ≤ 126) (hv2 : we2 ≤ 126)
    (hc1 : ∀ w', Below w.heap.size w w' → ValS we1 A1 c1 hs1 true w') (hc2 : ∀ w', Below w.heap.size w w' → ValS we2 A2 c2 hs2 true w') (hW : orW we1 we2 ≠ 127) (o1 : ordB hs1 = true) (o2 : ordB hs2 = true) (l1 : hs1.length ≤ 1000) (l2 : hs2.length ≤ 1000) (Rw : Int) (RL : List Int) (Re : Int)
    (hres : (1000 < (uniL hs1 hs2).length ∧ Rw = 0 ∧ RL = [] ∧ Re = 4) ∨ ((uniL hs1 hs2).length ≤ 1000 ∧ Rw = orW we1 we2 ∧ RL = uniL hs1 hs2 ∧ Re = 0)) : RJoS we1 A1 c1 hs1 we2 A2 c2 hs2 Rw RL Re w := by
  have hJ := joB_new we1 A1 c1 hs1 we2 A2 c2 hs2 w h1.rd h2.rd
  obtain ⟨W3, hW3⟩ : ∃ W3, ((w.alloc (.cells #[.int .u8 we1, .slice A1 hs1.length c1] 24)).alloc (.cells #[.int .u8 we2, .slice A2 hs2.length c2] 24)).alloc (.cells #[.int .u8 0, .slice none 0 0] 24) = W3 := ⟨_, rfl⟩
  rw [hW3] at hJ
  have J3 := Lib.hid hJ
  have HC1 : Hid (∀ w', Below w.heap.size w w' → Calls _ _ _ _ _) := hc1
  have HC2 : Hid (∀ w', Below w.heap.size w w' → Calls _ _ _ _ _) := hc2
  have a0 := hJ.C1.c0
  have a1 := hJ.C1.c1
  have b0 := hJ.C2.c0
  have b1 := hJ.C2.c1
  have w10 := h1.w0
  have w20 := h2.w0
  have HW := Lib.hid hW
  have HRES := Lib.hid hres
  have H1 := Lib.hid h1.rd
  have H2 := Lib.hid h2.rd
  have HP1 := Lib.hid (ordB_pair o1)
  have HP2 := Lib.hid (ordB_pair o2)
  have HD1 := Lib.hid (ordB_day o1)
  have HD2 := Lib.hid (ordB_day o2)
  have HL1 := Lib.hid l1
  have HL2 := Lib.hid l2
  obtain ⟨i0, hi0, hz0, hz1, hz2⟩ := info_parts infoZ
  have HST := Lib.hid (fun i => orW_step we1 we2 i w10 w20)
  have HBD := Lib.hid (orW_bd we1 we2 w10 hv1 w20 hv2)
  have HR1 := Lib.hid fun (m : Nat) (hm : m ≤ 6) b hb w => rest_any we1 m b w10 (by omega) (by omega) (by omega) hb w
  have HR2 := Lib.hid fun (m : Nat) (hm : m ≤ 6) b hb w => rest_any we2 m b w20 (by omega) (by omega) (by omega) hb w
  clear hJ h1 h2 hc1 hc2 hW o1 o2 l1 l2 hres
  show Calls _ _ _ _ _
  go_enter Try.func8, Try.ntmps8
  go_wp2_with (first
    | (go_at_call 11; ((with_reducible refine (HC1.out _ J3.out.B).mono ?_); rintro x w4 ⟨rfl, hb⟩; have J4 := Lib.hid (J3.out.below hb); have a0 := J4.out.C1.c0; have a1 := J4.out.C1.c1; have b0 := J4.out.C2.c0; have b1 := J4.out.C2.c1; clear hb))
    | (go_at_call 11; ((with_reducible refine (HC2.out _ J4.out.B).mono ?_); rintro x w5 ⟨rfl, hb⟩; have J5 := Lib.hid (J4.out.below hb); have R5 := Lib.hid (RjO.new J5.out); clear hb)))
  clear a0 a1 b0 b1 hW3
  go_loopw [7] (fun i wr => ∃ (j : Nat) (X : Int), j ≤ 7 ∧ i = .int .i64 ((j : Int) - 1) ∧ Hid (X = orW we1 we2 / 2 ^ j) ∧ Hid (RjO we1 A1 c1 hs1 we2 A2 c2 hs2 w wr w5.heap.size X (.slice none 0 0))) (fun i _ => (intOf i + 1).toNat)
  case atStart => exact ⟨7, 0, by omega, rfl, by show (0 : Int) = _; have h := HBD.out; exact (Int.ediv_eq_zero_of_lt h.1 (by omega)).symm, R5⟩
  case round =>
    clear R5
    obtain ⟨j, X, hj, rfl, HX, HR⟩ := hrel
    by_cases hj0 : j = 0
    · subst hj0
      obtain rfl : X = orW we1 we2 := by rw [HX.out, Int.pow_zero, Int.ediv_one]
      have ko0 := HR.out.ko0
      have hw1 : (orW we1 we2 == 127) = false := by rw [beq_eq_false_iff_ne]; exact HW.out
      clear HX HST
      rw [show ((0 : Nat) : Int) - 1 = -1 from rfl]
      go_wp2
      clear ko0
      go_loopw [8, 9] (fun si sk wr => ∃ (i k : Nat) (out : List Int) (v : Value), i ≤ hs1.length ∧ k ≤ hs2.length ∧ si = .int .i64 i ∧ sk = .int .i64 k ∧ Hid (Mg hs1 hs2 i k out) ∧ Hid (RjO we1 A1 c1 hs1 we2 A2 c2 hs2 w wr w5.heap.size (orW we1 we2) v) ∧ Hid (wr.ownsRow (w5.heap.size + 1) 3 1 v out.length (out.map encZ))) (fun si sk _ => (hs1.length - (intOf si).toNat) + (hs2.length - (intOf sk).toNat))
      case atStart => exact ⟨0, 0, [], _, by omega, by omega, rfl, rfl, Mg.start _ _, HR, World.ownsRow_nil _ _ _ _⟩
      case round =>
        clear HR HR1 HR2 HC1 HC2 J3 J4 J5 HBD hj w10 w20 hv1 hv2
        obtain ⟨i, k, out, v, hi, hk, rfl, rfl, HM, HR, HO⟩ := hrel
        obtain ⟨A', c', rfl, -, -, -, -, -⟩ := HsA.of_own HO.out
        have hbase : w5.heap.size + 1 ≤ wr.heap.size := lt_of_block HR.out.o
        have hlen := HM.out.len
        have ll1 := HL1.out
        have ll2 := HL2.out
        have ka1 := HR.out.ka1
        have kb1 := HR.out.kb1
        have ko1 := HR.out.ko1
        have fo1 := HR.out.fo1
        have ko0 := HR.out.ko0
        by_cases hi' : i < hs1.length
        · have i1 : (i : Int) < (hs1.length : Int) := by omega
          obtain ⟨b, o, rfl, -, -⟩ := (H1.out.below HR.out.B).get hi'
          have HXA := Lib.hid fun W (hb : Below w.heap.size w W) => (H1.out.below hb).at hi'
          have hdx := HD1.out (hs1.getD i 0) (by rw [List.getD_eq_getElem?_getD, List.getElem?_eq_getElem hi']; exact List.getElem_mem hi')
          by_cases hk' : k < hs2.length
          · have k1 : (k : Int) < (hs2.length : Int) := by omega
            obtain ⟨b', o', rfl, -, -⟩ := (H2.out.below HR.out.B).get hk'
            have HYA := Lib.hid fun W (hb : Below w.heap.size w W) => (H2.out.below hb).at hk'
            have hdy := HD2.out (hs2.getD k 0) (by rw [List.getD_eq_getElem?_getD, List.getElem?_eq_getElem hk']; exact List.getElem_mem hk')
            have HS1 : Hid (hs1.getD i 0 < hs2.getD k 0 → Mg hs1 hs2 (i + 1) k (out ++ [hs1.getD i 0])) := fun h => HM.out.step HP1.out HP2.out (.inl ⟨rfl, hi', rfl⟩) (.inr ⟨rfl, fun _ => h⟩) (.inl rfl)
            have HS2 : Hid (hs2.getD k 0 < hs1.getD i 0 → Mg hs1 hs2 i (k + 1) (out ++ [hs2.getD k 0])) := fun h => HM.out.step HP1.out HP2.out (.inr ⟨rfl, fun _ => h⟩) (.inl ⟨rfl, hk', rfl⟩) (.inr rfl)
            have HS3 : Hid (hs1.getD i 0 = hs2.getD k 0 → Mg hs1 hs2 (i + 1) (k + 1) (out ++ [hs1.getD i 0])) := fun h => HM.out.step HP1.out HP2.out (.inl ⟨rfl, hi', rfl⟩) (.inl ⟨rfl, hk', h.symm⟩) (.inl rfl)
            clear HM
            generalize hs1.getD i 0 = x at *
            generalize hs2.getD k 0 = y at *
            have xa := HXA.out _ HR.out.B
            have ya := HYA.out _ HR.out.B
            rcases Int.lt_trichotomy x y with hxy | hxy | hxy
            · have hM := Lib.hid (HS1.out hxy)
              have e1 : (x == x) = true := by simp
              have e2 : (y == x) = false := by rw [beq_eq_false_iff_ne]; omega
              have e3 : min x y = x := by omega
              have e4 : x ≤ y := by omega
              clear HS1 HS2 HS3
              go_wp2_with (at_builtin; refine wpList_appOne HO.out _ rfl _ _ 22 rfl i0 (.int .i64 0) 8 Try.underlying22 hi0 hz0 hz1 hz2 rfl rfl rfl rfl (by unfold maxLen; omega) (by omega) hbase ?_; intro v' w2 hown2 hb2; have own2 := own_one hown2; obtain ⟨A2', c2', rfl, -, -, -, -, -⟩ := HsA.of_own own2; have O2 := Lib.hid (own_two (own_set own2 (p := ⟨w5.heap.size, 1, none⟩) (Nat.lt_succ_self _) (.slice A2' (out.length + 1) c2'))); have R0 := HR.out.up hb2; have fo2 := R0.fo1; have so2 := R0.ko1; have R2 := Lib.hid (R0.set1 (.slice A2' (out.length + 1) c2')); have ja1 := R2.out.ka1; have jb1 := R2.out.kb1; have xb := HXA.out _ R2.out.B; have yb := HYA.out _ R2.out.B; clear hown2 hb2 own2 R0)
              go_roundw
              case rel => exact ⟨i + 1, k, out ++ [x], _, by omega, by omega, by go_num, by go_num, hM, R2, O2⟩
              case measure => simp [intOf]; omega
            · subst hxy
              have hM := Lib.hid (HS3.out rfl)
              have e1 : (x == x) = true := by simp
              have e3 : min x x = x := by omega
              have e4 : x ≤ x := by omega
              clear HS1 HS2 HS3
              go_wp2_with (at_builtin; refine wpList_appOne HO.out _ rfl _ _ 22 rfl i0 (.int .i64 0) 8 Try.underlying22 hi0 hz0 hz1 hz2 rfl rfl rfl rfl (by unfold maxLen; omega) (by omega) hbase ?_; intro v' w2 hown2 hb2; have own2 := own_one hown2; obtain ⟨A2', c2', rfl, -, -, -, -, -⟩ := HsA.of_own own2; have O2 := Lib.hid (own_two (own_set own2 (p := ⟨w5.heap.size, 1, none⟩) (Nat.lt_succ_self _) (.slice A2' (out.length + 1) c2'))); have R0 := HR.out.up hb2; have fo2 := R0.fo1; have so2 := R0.ko1; have R2 := Lib.hid (R0.set1 (.slice A2' (out.length + 1) c2')); have ja1 := R2.out.ka1; have jb1 := R2.out.kb1; have xb := HXA.out _ R2.out.B; have yb := HYA.out _ R2.out.B; clear hown2 hb2 own2 R0)
              go_roundw
              case rel => exact ⟨i + 1, k + 1, out ++ [x], _, by omega, by omega, by go_num, by go_num, hM, R2, O2⟩
              case measure => simp [intOf]; omega
            · have hM := Lib.hid (HS2.out hxy)
              have e1 : (y == y) = true := by simp
              have e2 : (x == y) = false := by rw [beq_eq_false_iff_ne]; omega
              have e3 : min x y = y := by omega
              have e4 : ¬ x ≤ y := by omega
              clear HS1 HS2 HS3
              go_wp2_with (at_builtin; refine wpList_appOne HO.out _ rfl _ _ 22 rfl i0 (.int .i64 0) 8 Try.underlying22 hi0 hz0 hz1 hz2 rfl rfl rfl rfl (by unfold maxLen; omega) (by omega) hbase ?_; intro v' w2 hown2 hb2; have own2 := own_one hown2; obtain ⟨A2', c2', rfl, -, -, -, -, -⟩ := HsA.of_own own2; have O2 := Lib.hid (own_two (own_set own2 (p := ⟨w5.heap.size, 1, none⟩) (Nat.lt_succ_self _) (.slice A2' (out.length + 1) c2'))); have R0 := HR.out.up hb2; have fo2 := R0.fo1; have so2 := R0.ko1; have R2 := Lib.hid (R0.set1 (.slice A2' (out.length + 1) c2')); have ja1 := R2.out.ka1; have jb1 := R2.out.kb1; have xb := HXA.out _ R2.out.B; have yb := HYA.out _ R2.out.B; clear hown2 hb2 own2 R0)
              go_roundw
              case rel => exact ⟨i, k + 1, out ++ [y], _, by omega, by omega, by go_num, by go_num, hM, R2, O2⟩
              case measure => simp [intOf]; omega
          · obtain rfl : k = hs2.length := by omega
            have hM : Hid (Mg hs1 hs2 (i + 1) hs2.length (out ++ [hs1.getD i 0])) := HM.out.step HP1.out HP2.out (.inl ⟨rfl, hi', rfl⟩) (.inr ⟨rfl, fun h => absurd h (by omega)⟩) (.inl rfl)
            clear HM
            generalize hs1.getD i 0 = x at *
            have xa := HXA.out _ HR.out.B
            have e1 : (x == x) = true := by simp
            go_wp2_with (at_builtin; refine wpList_appOne HO.out _ rfl _ _ 22 rfl i0 (.int .i64 0) 8 Try.underlying22 hi0 hz0 hz1 hz2 rfl rfl rfl rfl (by unfold maxLen; omega) (by omega) hbase ?_; intro v' w2 hown2 hb2; have own2 := own_one hown2; obtain ⟨A2', c2', rfl, -, -, -, -, -⟩ := HsA.of_own own2; have O2 := Lib.hid (own_two (own_set own2 (p := ⟨w5.heap.size, 1, none⟩) (Nat.lt_succ_self _) (.slice A2' (out.length + 1) c2'))); have R0 := HR.out.up hb2; have fo2 := R0.fo1; have so2 := R0.ko1; have R2 := Lib.hid (R0.set1 (.slice A2' (out.length + 1) c2')); have ja1 := R2.out.ka1; have jb1 := R2.out.kb1; have xb := HXA.out _ R2.out.B; clear hown2 hb2 own2 R0)
            go_roundw
            case rel => exact ⟨i + 1, hs2.length, out ++ [x], _, by omega, by omega, by go_num, by go_num, hM, R2, O2⟩
            case measure => simp [intOf]; omega
        · obtain rfl : i = hs1.length := by omega
          by_cases hk' : k < hs2.length
          · have k1 : (k : Int) < (hs2.length : Int) := by omega
            obtain ⟨b', o', rfl, -, -⟩ := (H2.out.below HR.out.B).get hk'
            have HYA := Lib.hid fun W (hb : Below w.heap.size w W) => (H2.out.below hb).at hk'
            have hdy := HD2.out (hs2.getD k 0) (by rw [List.getD_eq_getElem?_getD, List.getElem?_eq_getElem hk']; exact List.getElem_mem hk')
            have hM : Hid (Mg hs1 hs2 hs1.length (k + 1) (out ++ [hs2.getD k 0])) := HM.out.step HP1.out HP2.out (.inr ⟨rfl, fun h => absurd h (by omega)⟩) (.inl ⟨rfl, hk', rfl⟩) (.inr rfl)
            clear HM
            generalize hs2.getD k 0 = y at *
            have ya := HYA.out _ HR.out.B
            have e1 : (y == y) = true := by simp
            have e3 : min 100000 y = y := by omega
            have e4 : ¬ (100000 : Int) ≤ y := by omega
            go_wp2_with (at_builtin; refine wpList_appOne HO.out _ rfl _ _ 22 rfl i0 (.int .i64 0) 8 Try.underlying22 hi0 hz0 hz1 hz2 rfl rfl rfl rfl (by unfold maxLen; omega) (by omega) hbase ?_; intro v' w2 hown2 hb2; have own2 := own_one hown2; obtain ⟨A2', c2', rfl, -, -, -, -, -⟩ := HsA.of_own own2; have O2 := Lib.hid (own_two (own_set own2 (p := ⟨w5.heap.size, 1, none⟩) (Nat.lt_succ_self _) (.slice A2' (out.length + 1) c2'))); have R0 := HR.out.up hb2; have fo2 := R0.fo1; have so2 := R0.ko1; have R2 := Lib.hid (R0.set1 (.slice A2' (out.length + 1) c2')); have ja1 := R2.out.ka1; have jb1 := R2.out.kb1; have yb := HYA.out _ R2.out.B; clear hown2 hb2 own2 R0)
            go_roundw
            case rel => exact ⟨hs1.length, k + 1, out ++ [y], _, by omega, by omega, by go_num, by go_num, hM, R2, O2⟩
            case measure => simp [intOf]; omega
          · obtain rfl : k = hs2.length := by omega
            have hU := HM.out.full
            have q0 := HR.out.q0
            have q1 := HR.out.q1
            have q2 := HR.out.q2
            have q3 := HR.out.q3
            have HU := Lib.hid hU
            clear hU
            have hres := HRES.out
            rw [← HU.out] at hres
            clear HRES HU
            rcases hres with ⟨hl, rfl, rfl, rfl⟩ | ⟨hl, rfl, rfl, rfl⟩
            · have hl' : (1000 : Int) < (out.length : Int) := by omega
              clear hl
              go_wp2
              refine bodyPost_ret (results_row_tmp rfl _ _ (w.heap.size + 1 + 1) 24 _ (0, 0) _ _ rfl rfl (heap_set2 HR.out.r _ _) Try.underlying24 (by kernel_rfl) (by kernel_rfl)) rfl ?_
              exact ⟨_, rfl, World.ownsRow_nil _ _ _ _, bel_set2 HR.out.B _ (by omega) _ _⟩
            · have hl' : (RL.length : Int) ≤ 1000 := by omega
              clear hl
              go_wp2
              refine bodyPost_ret (results_row_tmp rfl _ _ (w.heap.size + 1 + 1) 24 _ (0, 0) _ _ rfl rfl (heap_set2 HR.out.r _ _) Try.underlying24 (by kernel_rfl) (by kernel_rfl)) rfl ?_
              have hO := HR.out.hO
              exact ⟨_, rfl, own_base (own_set (own_set HO.out (p := ⟨w.heap.size + 1 + 1, 0, none⟩) (by show w.heap.size + 1 + 1 < w5.heap.size + 1; omega) _) (p := ⟨w.heap.size + 1 + 1, 1, none⟩) (by show w.heap.size + 1 + 1 < w5.heap.size + 1; omega) _) (by omega), bel_set2 HR.out.B _ (by omega) _ _⟩
    · obtain ⟨m, rfl⟩ : ∃ m, j = m + 1 := ⟨j - 1, by omega⟩
      clear hj0
      have hst := HST.out m
      rw [← HX.out] at hst
      have hle : orW we1 we2 / 2 ^ m ≤ 127 := Int.le_trans (Int.ediv_le_self _ HBD.out.1) HBD.out.2
      have h0 : 0 ≤ X := by rw [HX.out]; exact Int.ediv_nonneg HBD.out.1 (Int.le_of_lt (Int.pow_pos (by decide)))
      obtain ⟨b1, hb1⟩ : ∃ b, decide (we1 / 2 ^ m % 2 = 1) = b := ⟨_, rfl⟩
      obtain ⟨b2, hb2⟩ : ∃ b, decide (we2 / 2 ^ m % 2 = 1) = b := ⟨_, rfl⟩
      rw [hb1, hb2] at hst
      have HC1 := Lib.hid (HR1.out m (by omega) b1 (by simpa using hb1))
      have HC2 := Lib.hid (HR2.out m (by omega) b2 (by simpa using hb2))
      have HT := Lib.hid hst
      have hX : X ≤ 63 := by
        have : (0 : Int) ≤ if (b1 || b2) = true then 1 else 0 := by split <;> decide
        omega
      rw [show ((m + 1 : Nat) : Int) - 1 = (m : Int) by omega]
      have S1 := Lib.hid (HR.out.set0 (2 * X))
      have S2 := Lib.hid (S1.out.set0 (2 * X + 1))
      have ko0 := HR.out.ko0
      have fo0 := HR.out.fo0
      have k1 := S1.out.ka0
      have k2 := S1.out.kb0
      have k3 := S1.out.ko0
      have k4 := S1.out.fo0
      clear hst hle hb1 hb2 HX
      cases b1 <;> cases b2
      all_goals
        go_wp2_with (first
          | (go_at_call 17; ((with_reducible refine (HC1.out _).mono ?_); rintro x u ⟨rfl, rfl⟩))
          | (go_at_call 17; ((with_reducible refine (HC2.out _).mono ?_); rintro x u ⟨rfl, rfl⟩)))
        go_roundw
        case rel => first | exact ⟨m, _, by omega, by go_num, HT.out.symm, S2⟩ | exact ⟨m, _, by omega, by go_num, (by show _ = _; have := HT.out; simpa using this.symm), S1⟩
        case measure => simp [intOf]
end Go.Proofs.Ytgnmcjfocnnffaa

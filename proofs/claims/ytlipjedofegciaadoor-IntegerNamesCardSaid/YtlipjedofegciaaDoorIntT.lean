/- The walks of layer 1: texts of numbers. -/
import Derived.Test.YtlipjedofegciaaDoorIntG
import Derived.Test.YtlipjedofegciaaDoorIntB
namespace Go.Proofs.YtlipjedofegciaaDoor
open Go Go.RowKit

/-- The variables that the laws of sums read. -/
structure VarT (w : World) : Prop where
  sz : 7 ≤ w.heap.size
  tab : Lib.TabIs Tryd.prog w "internal/strconv.uint64pow10" .u64 Lib.pow10Tab
theorem VarT.below {w w' : World} (h : VarT w) (hb : Below w.heap.size w w') : VarT w' :=
  { sz := Nat.le_trans h.sz hb.size
    tab := var?_below hb gTab (by have := h.sz; omega) h.tab }
theorem Vars.t {w : World} (h : Vars w) : VarT w := ⟨h.sz, h.tab⟩

theorem Tryd.info5'' : (Tryd.prog.info? 5).map (fun i => (i.zero, i.size, i.bytes)) = some (some (.int .u8 0), 1, 1) := by kernel_rfl

theorem appendUint_any (B n u : Nat) (hu : u < 18446744073709551616) (sv : Value) (l : List UInt8) (w : World) (hv : VarT w) (hown : w.ownsRow B 5 1 sv n (Lib.byteCells l)) (hBw : B ≤ w.heap.size) (hlim : n + 20 ≤ 140737488355328) :
    Calls Tryd.prog 86 #[sv, .int .u64 u, .int .i64 10] w fun e w' => ∃ v', e = .returned v' ∧ w'.ownsRow B 5 1 v' (n + (Lib.decDigits u).length) (Lib.byteCells (l ++ Lib.decDigits u)) ∧ Below B w w' := by
  have eb : Lib.byteCells l ++ Lib.byteCells (Lib.decDigits u) = Lib.byteCells (l ++ Lib.decDigits u) := by simp [Lib.byteCells]
  have HI : Hid (Calls Tryd.prog 106 #[sv, .int .u64 u, .int .i64 10] w fun e w' => ∃ v', e = .returned v' ∧ w'.ownsRow B 5 1 v' (n + (Lib.decDigits u).length) (Lib.byteCells (l ++ Lib.decDigits u)) ∧ Below B w w') := by
    show Calls _ _ _ _ _
    by_cases h : u < 100
    · refine (Tryd.internal_strconv_AppendUint_10_small B n u h sv _ w hown hBw hlim).mono ?_
      rintro e w' ⟨v', h1, h2, h3, _⟩
      exact ⟨v', h1, by rw [← eb]; exact h2, h3⟩
    · refine (Tryd.internal_strconv_AppendUint_10_big B n u (by omega) hu sv _ w hown hBw hlim hv.tab).mono ?_
      rintro e w' ⟨v', h1, h2, h3, _⟩
      exact ⟨v', h1, by rw [← eb]; exact h2, h3⟩
  clear hv hown eb hu
  go_enter Tryd.func86, Tryd.ntmps86
  go_wp2_with (go_at_call 106; refine HI.out.mono ?_; rintro e w' ⟨v', rfl, h2, h3⟩)
  go_ret
  exact ⟨_, rfl, h2, h3⟩

/-- The unit of round k. -/
def unitK (k : Nat) : Nat := if k < 9 then 10 ^ (8 - k) else 0
theorem unitK_next : ∀ k : Fin 9, unitK (k.val + 1) = unitK k.val / 10 ∧ 0 < unitK k.val ∧ unitK k.val ≤ 100000000 ∧ unitK k.val = 10 ^ (9 - 1 - k.val) := by decide

set_option maxRecDepth 100000 in
set_option maxHeartbeats 600000 in
theorem appendGroup_any (B n g : Nat) (hg : g < 1000000000) (sv : Value) (l : List UInt8) (w : World) (hown : w.ownsRow B 5 1 sv n (Lib.byteCells l)) (hBw : B ≤ w.heap.size) (hlim : n + 20 ≤ 140737488355328) :
    Calls Tryd.prog 87 #[sv, .int .u32 g] w fun e w' => ∃ v', e = .returned v' ∧ w'.ownsRow B 5 1 v' (n + 9) (Lib.byteCells (l ++ digs 9 g)) ∧ Below B w w' := by
  obtain ⟨i1, hi', hz0', hz1', hz2'⟩ := info_parts Tryd.info5''
  have hg' : (g : Int) ≤ 999999999 := by omega
  have HG := Lib.hid hg
  clear hg
  go_enter Tryd.func87, Tryd.ntmps87
  go_wp2
  go_loopw [0, 5] (fun b u wr => ∃ (k : Nat) (l' : List UInt8), k ≤ 9 ∧ u = .int .u32 ((unitK k : Nat) : Int) ∧ wr.ownsRow B 5 1 b (n + k) (Lib.byteCells l') ∧ Hid (l' = l ++ (digs 9 g).take k) ∧ Below B w wr) (fun _ u _ => (intOf u).toNat)
  case atStart => exact ⟨0, l, by omega, rfl, hown, by show _ = _; simp, Below.refl _ _⟩
  case round =>
    clear hown
    obtain ⟨k, l', hk, rfl, hown, hl, hbel⟩ := hrel
    by_cases h9 : k < 9
    · obtain ⟨u1, u2, u3, u4⟩ := unitK_next ⟨k, h9⟩
      simp only at u1 u2 u3 u4
      have hsz := hbel.size
      have HS : Hid (l' ++ [dch (g / unitK k % 10)] = l ++ (digs 9 g).take (k + 1)) := by
        show _ = _
        rw [digs_take 9 g k h9, hl.out, u4, List.append_assoc]
      have HU := Lib.hid u1
      clear u1 u4 hl
      generalize unitK k = u at *
      obtain ⟨d, hd⟩ : ∃ d, g / u = d := ⟨_, rfl⟩
      have hdi : (g : Int) / (u : Int) = (d : Int) := by rw [← hd, Int.natCast_ediv]
      have hdle : (d : Int) ≤ 999999999 := by
        have : g / u ≤ g := Nat.div_le_self _ _
        omega
      rw [hd] at HS
      have hu1 : 1 ≤ (u : Int) := by omega
      have hu2 : (u : Int) ≤ 100000000 := by omega
      have hund : ((u : Int) == 0) = false := by rw [beq_eq_false_iff_ne]; omega
      have HD := Lib.hid hdi
      clear hd u2 u3 hdi
      go_wp2_with (at_builtin; refine wpList_app1 hown _ rfl _ _ 64 rfl i1 (.int .u8 0) 1 Tryd.underlying64 hi' hz0' hz1' hz2' rfl rfl rfl rfl (by unfold maxLen; omega) (by omega) (by omega) ?_; intro v' w' hown' hb')
      rw [HD.out] at hown'
      go_roundw
      case rel => exact ⟨k + 1, l' ++ [dch (d % 10)], by omega, int_eq (by rw [HU.out]; omega), own_byte hown' (by omega) (by omega), HS, hbel.trans hb'⟩
      case measure => simp [intOf]; omega
    · obtain rfl : k = 9 := by omega
      have e : (digs 9 g).take 9 = digs 9 g := by rw [List.take_of_length_le (by rw [digs_length]; omega)]
      have HL := hl.out
      rw [e] at HL
      have HL := Lib.hid HL
      have hu : unitK 9 = 0 := rfl
      rw [hu]
      clear e hl hu
      go_wp2
      go_ret
      exact ⟨_, rfl, by rw [← HL.out]; exact hown, hbel⟩

/-- What the loop of text has laid when the groups below j are still to come. -/
def TgInv (m : Bool) (zs : List Nat) (q : Nat) (l : List UInt8) (j : Nat) : Prop := l = (if m then [45] else []) ++ Lib.decDigits q ++ gtail (zs.drop j)
theorem TgInv.start (m : Bool) (zs : List Nat) (q : Nat) : TgInv m zs q ((if m then [45] else []) ++ Lib.decDigits q) zs.length := by
  unfold TgInv; rw [List.drop_of_length_le (Nat.le_refl _)]; simp [gtail]
theorem TgInv.step {m : Bool} {zs : List Nat} {q : Nat} {l : List UInt8} {j : Nat} (h : TgInv m zs q l (j + 1)) (hj : j < zs.length) : TgInv m zs q (l ++ digs 9 zs[j]) j := by
  unfold TgInv at *
  rw [List.drop_eq_getElem_cons hj, h, gtail, List.append_assoc, List.append_assoc]
theorem TgInv.len {m : Bool} {zs : List Nat} {q : Nat} {l : List UInt8} {j : Nat} (h : TgInv m zs q l j) (hq : q < 1000000000) : l.length ≤ 9 * zs.length + 20 := by
  unfold TgInv at h
  rw [h, List.length_append, List.length_append, gtail_length, List.length_drop]
  have h1 : (Lib.decDigits q).length ≤ 10 := by
    rcases Nat.eq_zero_or_pos q with e | e
    · rw [e, Lib.decDigits_one (by omega)]; simp
    · exact dec_len_le q 10 (by have : (10 : Nat) ^ 10 = 10000000000 := by decide
                                omega) e
  have h2 : (if m then ([45] : List UInt8) else []).length ≤ 1 := by cases m <;> simp
  omega
theorem TgInv.last {m : Bool} {zs : List Nat} {q : Nat} {l : List UInt8} (h : TgInv m zs q l 0) (hz : ∀ d ∈ zs, d < 1000000000) (hq : 0 < q) : l = Lib.itoa (sgn m (vl 1000000000 (zs ++ [q]))) := by
  have hv : 0 < vl 1000000000 (zs ++ [q]) := by
    rw [vl_snoc]
    have : 0 < 1000000000 ^ zs.length * q := Nat.mul_pos (Nat.pow_pos (by omega)) hq
    omega
  unfold TgInv at h
  rw [h, itoa_sgn m _ hv, dec_zs zs q hz hq, List.drop_zero, List.append_assoc]

theorem text_zero (m : Bool) (A : Option Addr) (c : Nat) (w : World) :
    Calls Tryd.prog 54 #[.agg #[.bool m, .slice A 0 c]] w fun e w' => e = .returned (.string ⟨(Lib.itoa (sgn m 0)).toArray⟩) ∧ Below w.heap.size w w' := by
  have HZ := Lib.hid (itoa_sgn_zero m)
  go_enter Tryd.func54, Tryd.ntmps54
  go_wp2
  go_ret
  exact ⟨ret_str HZ.out.symm, (Below.refl _ _).alloc (Nat.le_refl _) _⟩

theorem f1_of {w w0 : World} {m : Bool} {z : Value} {t : TypeId} (h : Below (w.heap.size + 1) (w.alloc (.cells #[.bool m, z] t)) w0) : w0.cell? ⟨w.heap.size, 1, none⟩ = some z := by
  refine (h.cell (p := ⟨w.heap.size, 1, none⟩) (by show w.heap.size < _; omega)).trans ?_
  rw [World.cell?_alloc_at _ _ _ _ rfl]; rfl
theorem f2_of {w w0 : World} {b k : Nat} {v : Value} {ob : Obj} (hb : b < w.heap.size) (hc : w.cell? ⟨b, k, none⟩ = some v) (h : Below (w.heap.size + 1) (w.alloc ob) w0) : w0.cell? ⟨b, k, none⟩ = some v :=
  (h.cell (p := ⟨b, k, none⟩) (by show b < _; omega)).trans ((World.cell?_alloc_lt w _ ⟨b, k, none⟩ hb).trans hc)
set_option maxRecDepth 100000 in
set_option maxHeartbeats 800000 in
theorem text_pos (m : Bool) (A : Option Addr) (c : Nat) (zs : List Nat) (q : Nat) (w : World) (hA : SlA encU w A (zs ++ [q])) (hz : ∀ d ∈ zs ++ [q], d < 1000000000) (hq : 0 < q) (hlen : zs.length ≤ 1048576) (hv : VarT w) :
    Calls Tryd.prog 54 #[.agg #[.bool m, .slice A (zs.length + 1) c]] w fun e w' => e = .returned (.string ⟨(Lib.itoa (sgn m (vl 1000000000 (zs ++ [q])))).toArray⟩) ∧ Below w.heap.size w w' := by
  obtain ⟨i1, hi', hz0', hz1', hz2'⟩ := info_parts Tryd.info5''
  have hq9 : (q : Int) ≤ 999999999 := by have := hz q (by simp); omega
  have hq0 : 0 ≤ (q : Int) := by omega
  obtain ⟨b, o, rfl, hb, hcells⟩ := hA.all (by simp)
  have hcq := hcells zs.length (by simp)
  have eq1 : (zs ++ [q])[zs.length]'(by simp) = q := by simp
  rw [eq1] at hcq
  unfold encU at hcq
  have HC : Hid (∀ (j : Nat) (hj : j < zs.length), w.cell? ⟨b, o + j, none⟩ = some (.int .u32 ((zs[j] : Nat) : Int))) := by
    intro j hj
    have := hcells j (by simp; omega)
    rwa [List.getElem_append_left hj] at this
  have HZ : Hid (∀ (j : Nat) (hj : j < zs.length), zs[j] < 1000000000) := fun j hj => hz _ (by simp [List.getElem_mem hj])
  have HL := Lib.hid (fun l (h : TgInv m zs q l 0) => h.last (fun d hd => hz d (by simp [hd])) hq)
  have HS := Lib.hid (TgInv.start m zs q)
  have HLEN := Lib.hid (fun l j (h : TgInv m zs q l j) => h.len (by omega))
  obtain ⟨R, hR⟩ : ∃ R, Lib.itoa (sgn m (vl 1000000000 (zs ++ [q]))) = R := ⟨_, rfl⟩
  rw [hR] at HL ⊢
  have HV0 := Lib.hid hv
  have hqn : q < 18446744073709551616 := by omega
  have HQ := Lib.hid hqn
  clear hcells hz hR hA eq1 hv hq hqn
  have hne : ((zs.length : Int) + 1 == 0) = false := by rw [beq_eq_false_iff_ne]; omega
  have hal : ∀ ob, Below w.heap.size w (w.alloc ob) := fun ob => (Below.refl _ w).alloc (Nat.le_refl _) ob
  have HV1 : Hid (∀ ob, VarT (w.alloc ob)) := fun ob => HV0.out.below (hal ob)
  clear hal HV0
  cases m
  · go_enter Tryd.func54, Tryd.ntmps54
    go_wp2_with fail
    refine (appendUint_any (w.heap.size + 1) 0 q HQ.out _ [] _ (HV1.out _) (World.ownsRow_nil _ _ _ _) (by simp) (by omega)).mono ?_
    rintro e w2 ⟨v2, rfl, hown2, hb2⟩
    have HB2 : Hid (Below (w.alloc (.cells #[.bool false, .slice (some ⟨b, o, none⟩) (zs.length + 1) c] 70)).heap.size (w.alloc (.cells #[.bool false, .slice (some ⟨b, o, none⟩) (zs.length + 1) c] 70)) w2) := by
      show Below _ _ _
      rw [World.size_alloc]; exact hb2
    clear hb2
    obtain ⟨bc, bf⟩ := bcell HB2.out
    have c0 := bc w.heap.size 0 (by simp)
    have c1 := bc w.heap.size 1 (by simp)
    have hb0 : w2.cell? ⟨w.heap.size, 0, none⟩ = some (.bool false) := by rw [c0, World.cell?_alloc_at _ _ _ _ rfl]; rfl
    have hb1 : w2.cell? ⟨w.heap.size, 1, none⟩ = some (.slice (some ⟨b, o, none⟩) (zs.length + 1) c) := by rw [c1, World.cell?_alloc_at _ _ _ _ rfl]; rfl
    have HOWN := Lib.hid hown2
    clear bc bf c0 c1 hown2 hb0
    go_wp2
    go_loopw [3, 5] (fun out i wr => ∃ (j n : Nat) (l : List UInt8), j ≤ zs.length ∧ i = .int .i64 ((j : Int) - 1) ∧ wr.ownsRow (w.heap.size + 1) 5 1 out n (Lib.byteCells l) ∧ Hid (TgInv false zs q l j) ∧ Below (w.heap.size + 1) w2 wr) (fun _ i _ => (intOf i + 1).toNat)
    case atStart => exact ⟨zs.length, _, _, Nat.le_refl _, rfl, HOWN.out, HS, Below.refl _ _⟩
    case round =>
      obtain ⟨j, n, l, hj, rfl, hown, hinv, hbel⟩ := hrel
      cases j with
      | zero =>
        have HX := Lib.hid (HL.out l hinv.out)
        have hcv := conv_own (P := Tryd.prog) hown 64 22 Tryd.underlying64 Tryd.underlying5 Tryd.underlying22
        have HBF := Lib.hid (bt ((Below.refl _ w).alloc (Nat.le_refl _) (.cells #[.bool false, .slice (some ⟨b, o, none⟩) (zs.length + 1) c] 70)) ((HB2.out.trans (hbel.mono (by simp)))))
        clear hinv HL HS HC HZ HLEN hown
        go_wp2
        go_ret
        exact ⟨ret_str HX.out, HBF.out⟩
      | succ j =>
        have ej : ((j + 1 : Nat) : Int) - 1 = (j : Int) := by omega
        rw [ej]
        clear ej
        have hjl : j < zs.length := hj
        have hz9 := HZ.out j hjl
        have hb1' : wr.cell? ⟨w.heap.size, 1, none⟩ = some (.slice (some ⟨b, o, none⟩) (zs.length + 1) c) := (hbel.cell (p := ⟨w.heap.size, 1, none⟩) (by show w.heap.size < _; omega)).trans hb1
        have hcj : wr.cell? ⟨b, o + j, none⟩ = some (.int .u32 ((zs[j] : Nat) : Int)) := by
          refine (hbel.cell (p := ⟨b, o + j, none⟩) (by show b < _; omega)).trans ((HB2.out.cell (p := ⟨b, o + j, none⟩) (by show b < _; simp; omega)).trans ?_)
          exact (World.cell?_alloc_lt w _ ⟨b, o + j, none⟩ hb).trans (HC.out j hjl)
        have hlen2 := HLEN.out l _ hinv.out
        have hn : n = l.length := by have := hown.1; simpa [Lib.byteCells] using this.symm
        have HI := Lib.hid (hinv.out.step hjl)
        have hsz := hbel.size
        have hsz0 := HB2.out.size
        have hsz1 : w.heap.size + 1 ≤ w2.heap.size := by simpa using hsz0
        have HG := Lib.hid (appendGroup_any (w.heap.size + 1) n zs[j] hz9 _ l wr hown (by omega) (by omega))
        have hjl' : (j : Int) < (zs.length : Int) + 1 := by omega
        clear hinv hz9 hlen2 hn hsz0
        generalize zs[j] = g at *
        go_wp2_with (go_at_call 87; refine HG.out.mono ?_; rintro e w3 ⟨v3, rfl, hown3, hb3⟩)
        go_roundw
        case rel => exact ⟨j, n + 9, _, by omega, rfl, hown3, HI, hbel.trans hb3⟩
        case measure => simp [intOf]
  · go_enter Tryd.func54, Tryd.ntmps54
    go_wp2_with (at_builtin; refine wpList_app1 (World.ownsRow_nil (w.alloc (.cells #[.bool true, .slice (some ⟨b, o, none⟩) (zs.length + 1) c] 70)) (w.heap.size + 1) 5 1) _ rfl _ _ 64 rfl i1 (.int .u8 0) 1 Tryd.underlying64 hi' hz0' hz1' hz2' rfl rfl (by rw [World.size_alloc]; rfl) rfl (by unfold maxLen; omega) (by omega) (by simp) ?_; intro v0 w0 hown0 hb0; have f1 := f1_of (m := true) (z := .slice (some ⟨b, o, none⟩) (zs.length + 1) c) hb0; have f2 := f2_of hb hcq hb0)
    have HV2 := Lib.hid (HV1.out (.cells #[.bool true, .slice (some ⟨b, o, none⟩) (zs.length + 1) c] 70) |>.below (by rw [World.size_alloc]; exact hb0))
    have hsz0' : w.heap.size + 1 ≤ w0.heap.size := by simpa using hb0.size
    refine (appendUint_any (w.heap.size + 1) 1 q HQ.out _ [45] _ HV2.out hown0 hsz0' (by omega)).mono ?_
    rintro e w2 ⟨v2, rfl, hown2, hb2⟩
    have HB2 : Hid (Below (w.alloc (.cells #[.bool true, .slice (some ⟨b, o, none⟩) (zs.length + 1) c] 70)).heap.size (w.alloc (.cells #[.bool true, .slice (some ⟨b, o, none⟩) (zs.length + 1) c] 70)) w2) := by
      show Below _ _ _
      rw [World.size_alloc]; exact hb0.trans hb2
    clear hb2 hown0 f1 f2 hb0 hsz0'
    obtain ⟨bc, bf⟩ := bcell HB2.out
    have c0 := bc w.heap.size 0 (by simp)
    have c1 := bc w.heap.size 1 (by simp)
    have hb0 : w2.cell? ⟨w.heap.size, 0, none⟩ = some (.bool true) := by rw [c0, World.cell?_alloc_at _ _ _ _ rfl]; rfl
    have hb1 : w2.cell? ⟨w.heap.size, 1, none⟩ = some (.slice (some ⟨b, o, none⟩) (zs.length + 1) c) := by rw [c1, World.cell?_alloc_at _ _ _ _ rfl]; rfl
    have HOWN := Lib.hid hown2
    clear bc bf c0 c1 hown2 hb0
    go_wp2
    go_loopw [3, 5] (fun out i wr => ∃ (j n : Nat) (l : List UInt8), j ≤ zs.length ∧ i = .int .i64 ((j : Int) - 1) ∧ wr.ownsRow (w.heap.size + 1) 5 1 out n (Lib.byteCells l) ∧ Hid (TgInv true zs q l j) ∧ Below (w.heap.size + 1) w2 wr) (fun _ i _ => (intOf i + 1).toNat)
    case atStart => exact ⟨zs.length, _, _, Nat.le_refl _, rfl, HOWN.out, HS, Below.refl _ _⟩
    case round =>
      obtain ⟨j, n, l, hj, rfl, hown, hinv, hbel⟩ := hrel
      cases j with
      | zero =>
        have HX := Lib.hid (HL.out l hinv.out)
        have hcv := conv_own (P := Tryd.prog) hown 64 22 Tryd.underlying64 Tryd.underlying5 Tryd.underlying22
        have HBF := Lib.hid (bt ((Below.refl _ w).alloc (Nat.le_refl _) (.cells #[.bool true, .slice (some ⟨b, o, none⟩) (zs.length + 1) c] 70)) ((HB2.out.trans (hbel.mono (by simp)))))
        clear hinv HL HS HC HZ HLEN hown
        go_wp2
        go_ret
        exact ⟨ret_str HX.out, HBF.out⟩
      | succ j =>
        have ej : ((j + 1 : Nat) : Int) - 1 = (j : Int) := by omega
        rw [ej]
        clear ej
        have hjl : j < zs.length := hj
        have hz9 := HZ.out j hjl
        have hb1' : wr.cell? ⟨w.heap.size, 1, none⟩ = some (.slice (some ⟨b, o, none⟩) (zs.length + 1) c) := (hbel.cell (p := ⟨w.heap.size, 1, none⟩) (by show w.heap.size < _; omega)).trans hb1
        have hcj : wr.cell? ⟨b, o + j, none⟩ = some (.int .u32 ((zs[j] : Nat) : Int)) := by
          refine (hbel.cell (p := ⟨b, o + j, none⟩) (by show b < _; omega)).trans ((HB2.out.cell (p := ⟨b, o + j, none⟩) (by show b < _; simp; omega)).trans ?_)
          exact (World.cell?_alloc_lt w _ ⟨b, o + j, none⟩ hb).trans (HC.out j hjl)
        have hlen2 := HLEN.out l _ hinv.out
        have hn : n = l.length := by have := hown.1; simpa [Lib.byteCells] using this.symm
        have HI := Lib.hid (hinv.out.step hjl)
        have hsz := hbel.size
        have hsz0 := HB2.out.size
        have hsz1 : w.heap.size + 1 ≤ w2.heap.size := by simpa using hsz0
        have HG := Lib.hid (appendGroup_any (w.heap.size + 1) n zs[j] hz9 _ l wr hown (by omega) (by omega))
        have hjl' : (j : Int) < (zs.length : Int) + 1 := by omega
        clear hinv hz9 hlen2 hn hsz0
        generalize zs[j] = g at *
        go_wp2_with (go_at_call 87; refine HG.out.mono ?_; rintro e w3 ⟨v3, rfl, hown3, hb3⟩)
        go_roundw
        case rel => exact ⟨j, n + 9, _, by omega, rfl, hown3, HI, hbel.trans hb3⟩
        case measure => simp [intOf]

theorem text_of (m : Bool) (A : Option Addr) (c : Nat) (zs : List Nat) (w : World) (hA : SlA encU w A zs) (hz : Nrm zs) (hlen : zs.length ≤ 1048576) (hv : VarT w) :
    Calls Tryd.prog 54 #[.agg #[.bool m, .slice A zs.length c]] w fun e w' => e = .returned (.string ⟨(Lib.itoa (sgn m (vl 1000000000 zs))).toArray⟩) ∧ Below w.heap.size w w' := by
  by_cases h0 : zs = []
  · subst h0; exact text_zero m A c w
  · have e := List.dropLast_concat_getLast h0
    obtain ⟨ys, q, rfl⟩ : ∃ ys q, zs = ys ++ [q] := ⟨_, _, e.symm⟩
    have hq := hz.top h0
    have hl : (ys ++ [q]).length = ys.length + 1 := by simp
    rw [hl, Nat.add_sub_cancel, List.getD_eq_getElem?_getD] at hq
    simp at hq
    rw [hl]
    exact text_pos m A c ys q w hA hz.lt (by omega) (by rw [hl] at hlen; omega) hv

theorem limited_any (m : Bool) (A : Option Addr) (c : Nat) (zs : List Nat) (R : List UInt8 × Int) (hR : limS (sgn m (vl 1000000000 zs)) = R) (w : World) (hA : SlA encU w A zs) (hz : Nrm zs) (hlen : zs.length ≤ 1048576) (hv : VarT w) :
    Calls Tryd.prog 46 #[.agg #[.bool m, .slice A zs.length c]] w fun e w' => e = .returned (.tuple #[.string ⟨R.1.toArray⟩, .int .i64 R.2]) ∧ Below w.heap.size w w' := by
  have hal : ∀ ob, Below w.heap.size w (w.alloc ob) := fun ob => (Below.refl _ w).alloc (Nat.le_refl _) ob
  have HT : Hid (∀ ob, Calls Tryd.prog 54 #[.agg #[.bool m, .slice A zs.length c]] (w.alloc ob) fun e w' => e = .returned (.string ⟨(Lib.itoa (sgn m (vl 1000000000 zs))).toArray⟩) ∧ Below (w.alloc ob).heap.size (w.alloc ob) w') := fun ob => text_of m A c zs (w.alloc ob) (hA.below (hal ob)) hz hlen (hv.below (hal ob))
  have hl2 : (Lib.itoa (sgn m (vl 1000000000 zs))).length ≤ maxLen := by
    have h1 := itoa_len m _ _ (by rw [← pow9]; exact vl_lt 1000000000 zs hz.lt : vl 1000000000 zs < 10 ^ (9 * zs.length))
    unfold maxLen
    omega
  unfold limS at hR
  obtain ⟨z, hzz⟩ : ∃ z, sgn m (vl 1000000000 zs) = z := ⟨_, rfl⟩
  rw [hzz] at HT hR hl2
  have HC := Lib.hid (fun W => check_any ⟨(Lib.itoa z).toArray⟩ W hl2)
  rw [show (⟨(Lib.itoa z).toArray⟩ : ByteArray).data.toList = Lib.itoa z from rfl, chk_itoa] at HC
  have HAL := Lib.hid hal
  clear hal hA hz hv hl2 hzz
  generalize Lib.itoa z = l at HT HC hR
  by_cases hb : z.natAbs < lim
  · rw [if_pos hb] at HC hR
    subst hR
    clear hb
    go_enter Tryd.func46, Tryd.ntmps46
    go_wp2_with (first | (go_at_call 54; refine (HT.out _).mono ?_; rintro e w1 ⟨rfl, hb1⟩; have HB1 := Lib.hid hb1; clear hb1) | (go_at_call 12; (with_reducible refine (HC.out _).mono ?_); rintro e w2 ⟨rfl, rfl⟩))
    go_ret2
    exact ⟨rfl, bt (HAL.out _) HB1.out⟩
  · rw [if_neg hb] at HC hR
    subst hR
    clear hb
    go_enter Tryd.func46, Tryd.ntmps46
    go_wp2_with (first | (go_at_call 54; refine (HT.out _).mono ?_; rintro e w1 ⟨rfl, hb1⟩; have HB1 := Lib.hid hb1; clear hb1) | (go_at_call 12; (with_reducible refine (HC.out _).mono ?_); rintro e w2 ⟨rfl, rfl⟩))
    go_ret2
    exact ⟨rfl, bt (HAL.out _) HB1.out⟩

theorem opposite_any (m : Bool) (A : Option Addr) (n c : Nat) (w : World) :
    Calls Tryd.prog 49 #[.agg #[.bool m, .slice A n c]] w fun e w' => e = .returned (.agg #[.bool (!m), .slice A n c]) ∧ Below w.heap.size w w' := by
  go_enter Tryd.func49, Tryd.ntmps49
  go_wp2
  refine bodyPost_ret (v := .agg #[.bool (!m), .slice A n c]) (by simp [results, Tryd.results49, go_sem]) rfl ⟨rfl, ?_⟩
  exact ((Below.refl _ w).alloc (Nat.le_refl _) _).alloc (by simp) _
theorem sign_any (m : Bool) (A : Option Addr) (n c : Nat) (w : World) :
    Calls Tryd.prog 56 #[.agg #[.bool m, .slice A n c]] w fun e w' => e = .returned (.int .i64 (if n = 0 then 0 else if m then -1 else 1)) ∧ Below w.heap.size w w' := by
  by_cases h0 : n = 0
  · subst h0
    rw [if_pos rfl]
    go_enter Tryd.func56, Tryd.ntmps56
    go_wp2
    go_ret
    exact ⟨rfl, (Below.refl _ _).alloc (Nat.le_refl _) _⟩
  · rw [if_neg h0]
    have h1 : ((n : Int) == 0) = false := by rw [beq_eq_false_iff_ne]; omega
    clear h0
    cases m
    · go_enter Tryd.func56, Tryd.ntmps56
      go_wp2
      go_ret
      exact ⟨rfl, (Below.refl _ _).alloc (Nat.le_refl _) _⟩
    · go_enter Tryd.func56, Tryd.ntmps56
      go_wp2
      go_ret
      exact ⟨rfl, (Below.refl _ _).alloc (Nat.le_refl _) _⟩
end Go.Proofs.YtlipjedofegciaaDoor

/- Joined: ObZ6, ObZ7, ObZ8, ObZ9, ObZ10, ObX2. -/
import Derived.Test.YtbfimfjhdbpenaaGreatDoorPk23
import Derived.Shelf.Spec.SlicesGrow
import Derived.Laws.AppendOwn
import Derived.Laws.AppendOwnNone
/- Layer 8: slices.Grow, slices.Concat over fixings, over choices. -/
namespace Go.Proofs.YtbfimfjhdbpenaaGreatDoor
open Go Go.RowKit Go.Shelf Go.BigFrame
def growRF : Go.Shelf.Ren := ⟨fun | 4 => 138 | n => n, fun | 0 => 0 | 3 => 3 | 4 => 4 | 9 => 9 | 20 => 20 | 22 => 35 | 25 => 44 | n => n, fun n => n⟩
theorem growLF : Lays8.n4 Tryz.prog growRF := {
  mixed := by kernel_rfl
  f4 := ⟨"slices.Grow[[]novation/api.Fixing,novation/api.Fixing]", by decide, Tryz.func138.trans (congrArg some (by kernel_rfl))⟩
  t0 := Tryz.underlying0
  a0 := Tryz.isAgg0
  z0 := Tryz.sizeOf0
  v0 := Tryz.zeroValue0
  t3 := Tryz.underlying3
  a3 := Tryz.isAgg3
  z3 := Tryz.sizeOf3
  v3 := Tryz.zeroValue3
  t4 := Tryz.underlying4
  a4 := Tryz.isAgg4
  z4 := Tryz.sizeOf4
  v4 := Tryz.zeroValue4
  t9 := Tryz.underlying9
  a9 := Tryz.isAgg9
  z9 := Tryz.sizeOf9
  v9 := Tryz.zeroValue9
  t20 := Tryz.underlying20
  a20 := Tryz.isAgg20
  z20 := Tryz.sizeOf20
  v20 := Tryz.zeroValue20
  t22 := Tryz.underlying35
  a22 := Tryz.isAgg35
  z22 := Tryz.sizeOf35
  v22 := Tryz.zeroValue35 }
theorem grow_anyF (n : Nat) (hn : n ≤ 4000) (w : World) :
    Calls Tryz.prog 138 #[.slice none 0 0, .int .i64 n] w fun e w' => ∃ v, e = .returned v ∧ w'.ownsRow w.heap.size 44 3 v 0 [] ∧ (n = 0 → v = .slice none 0 0) ∧ (0 < n → v ≠ .slice none 0 0) ∧ Below w.heap.size w w' := by
  obtain ⟨i0, hi, hz0, hz1, hz2⟩ := info_parts infoFx
  by_cases h0 : n = 0
  · subst h0
    refine (Any8.slices_Grow_room growLF none 0 0 0 w (by omega) (by omega) (by omega) (by omega)).mono ?_
    rintro e w' ⟨rfl, rfl⟩
    exact ⟨_, rfl, World.ownsRow_nil _ _ _ _, fun _ => rfl, fun h => absurd h (by omega), Below.refl _ _⟩
  · refine (Any8.slices_Grow_grow growLF i0 (.agg #[.string ⟨#[]⟩, .int .i64 0, .string ⟨#[]⟩]) hi hz0 (by omega) none 0 0 n [] w (by omega) (by omega) (by rw [hz2]; omega) (by omega) (by simp) (fun _ => rfl) (fun a h => by cases h)).mono ?_
    rintro e w' ⟨rfl, rfl⟩
    have hcap := grownCap_le_maxLen w (0 + n) 0 44 (by unfold maxLen; omega)
    have hge := grownCap_ge w (0 + n) 0 44
    refine ⟨_, rfl, World.ownsRow_made w.drew _ _ (Nat.le_refl _) hcap ?_, fun h => absurd h h0, fun _ h => (by injection h with h _ _; cases h), ((Below.refl _ w).drew).alloc (Nat.le_refl _) _⟩
    show ((#[] : Array Value) ++ Builtin.zeroCells (Value.agg #[.string ⟨#[]⟩, .int .i64 0, .string ⟨#[]⟩]).cells (0 + n - 0) ++ Builtin.zeroCells (Value.agg #[.string ⟨#[]⟩, .int .i64 0, .string ⟨#[]⟩]).cells (grownCap w (0 + n) 0 44 - (0 + n))).size = grownCap w (0 + n) 0 44 * 3
    rw [Array.size_append, Array.size_append, size_zeroCells, size_zeroCells]
    have e1 : (Value.agg #[.string ⟨#[]⟩, .int .i64 0, .string ⟨#[]⟩]).cells.size = 3 := rfl
    have e2 : (#[] : Array Value).size = 0 := rfl
    rw [e1, e2]
    generalize grownCap w (0 + n) 0 44 = G at *
    omega
def growRC : Go.Shelf.Ren := ⟨fun | 4 => 141 | n => n, fun | 0 => 0 | 3 => 3 | 4 => 4 | 9 => 9 | 20 => 20 | 22 => 36 | 25 => 47 | n => n, fun n => n⟩
theorem growLC : Lays8.n4 Tryz.prog growRC := {
  mixed := by kernel_rfl
  f4 := ⟨"slices.Grow[[]novation/api.Choice,novation/api.Choice]", by decide, Tryz.func141.trans (congrArg some (by kernel_rfl))⟩
  t0 := Tryz.underlying0
  a0 := Tryz.isAgg0
  z0 := Tryz.sizeOf0
  v0 := Tryz.zeroValue0
  t3 := Tryz.underlying3
  a3 := Tryz.isAgg3
  z3 := Tryz.sizeOf3
  v3 := Tryz.zeroValue3
  t4 := Tryz.underlying4
  a4 := Tryz.isAgg4
  z4 := Tryz.sizeOf4
  v4 := Tryz.zeroValue4
  t9 := Tryz.underlying9
  a9 := Tryz.isAgg9
  z9 := Tryz.sizeOf9
  v9 := Tryz.zeroValue9
  t20 := Tryz.underlying20
  a20 := Tryz.isAgg20
  z20 := Tryz.sizeOf20
  v20 := Tryz.zeroValue20
  t22 := Tryz.underlying36
  a22 := Tryz.isAgg36
  z22 := Tryz.sizeOf36
  v22 := Tryz.zeroValue36 }
theorem grow_anyC (n : Nat) (hn : n ≤ 4000) (w : World) :
    Calls Tryz.prog 141 #[.slice none 0 0, .int .i64 n] w fun e w' => ∃ v, e = .returned v ∧ w'.ownsRow w.heap.size 47 4 v 0 [] ∧ (n = 0 → v = .slice none 0 0) ∧ (0 < n → v ≠ .slice none 0 0) ∧ Below w.heap.size w w' := by
  obtain ⟨i0, hi, hz0, hz1, hz2⟩ := info_parts infoCx
  by_cases h0 : n = 0
  · subst h0
    refine (Any8.slices_Grow_room growLC none 0 0 0 w (by omega) (by omega) (by omega) (by omega)).mono ?_
    rintro e w' ⟨rfl, rfl⟩
    exact ⟨_, rfl, World.ownsRow_nil _ _ _ _, fun _ => rfl, fun h => absurd h (by omega), Below.refl _ _⟩
  · refine (Any8.slices_Grow_grow growLC i0 (.agg #[.string ⟨#[]⟩, .string ⟨#[]⟩, .int .i64 0, .bool false]) hi hz0 (by omega) none 0 0 n [] w (by omega) (by omega) (by rw [hz2]; omega) (by omega) (by simp) (fun _ => rfl) (fun a h => by cases h)).mono ?_
    rintro e w' ⟨rfl, rfl⟩
    have hcap := grownCap_le_maxLen w (0 + n) 0 47 (by unfold maxLen; omega)
    have hge := grownCap_ge w (0 + n) 0 47
    refine ⟨_, rfl, World.ownsRow_made w.drew _ _ (Nat.le_refl _) hcap ?_, fun h => absurd h h0, fun _ h => (by injection h with h _ _; cases h), ((Below.refl _ w).drew).alloc (Nat.le_refl _) _⟩
    show ((#[] : Array Value) ++ Builtin.zeroCells (Value.agg #[.string ⟨#[]⟩, .string ⟨#[]⟩, .int .i64 0, .bool false]).cells (0 + n - 0) ++ Builtin.zeroCells (Value.agg #[.string ⟨#[]⟩, .string ⟨#[]⟩, .int .i64 0, .bool false]).cells (grownCap w (0 + n) 0 47 - (0 + n))).size = grownCap w (0 + n) 0 47 * 4
    rw [Array.size_append, Array.size_append, size_zeroCells, size_zeroCells]
    have e1 : (Value.agg #[.string ⟨#[]⟩, .string ⟨#[]⟩, .int .i64 0, .bool false]).cells.size = 4 := rfl
    have e2 : (#[] : Array Value).size = 0 := rfl
    rw [e1, e2]
    generalize grownCap w (0 + n) 0 47 = G at *
    omega
theorem wpList_appL {α : Type} {enc : α → List Value} {k : Nat} (hk : ∀ x, (enc x).length = k) (h0 : 0 < k) (hone : ∀ x, ∀ u ∈ enc x, u.oneCell' = true) {P : Program} {ops : Array Oper} {rest : List Oper} {o : Oper} {a : Act} {Q : Exit → Act → World → Prop} {w : World} {base : Nat} {e : TypeId} {v : Value} {n : Nat} {xs : List α} (hown : w.ownsRow base e k v n (rowsV enc xs))
    (A : Option Addr) (ys : List α) (m c : Nat) (hm : ys.length = m) (hS : RowsR w A k enc ys) (hgd : o.guard = none) (s y : Operand) (t : TypeId)
    (ho : o.op = .call { callee := .builtin .append, args := #[s, y], argTypes := #[t, t] })
    (i : TypeInfo) (z : Value) (bytes : Nat) (ht : P.underlying t = some (.slice e)) (hi : P.info? e = some i) (hz : i.zero = some z)
    (hsize : i.size = k) (hby : i.bytes = bytes) (hzs : z.cells.size = k)
    (hs : a.eval s = v) (hx : a.eval y = .slice A m c) (h63 : n + m ≤ maxLen) (hbytes : (n + m) * bytes ≤ 140737488355328) (hbase : base ≤ w.heap.size)
    (h : ∀ v' w', w'.ownsRow base e k v' (n + m) (rowsV enc (xs ++ ys)) → Below base w w' → wpList P ops Q rest (a.put o.dst v') w') : wpList P ops Q (o :: rest) a w := by
  rcases ys with _ | ⟨y0, ys⟩
  · have hm0 : m = 0 := by simpa using hm.symm
    subst hm0
    obtain ⟨A1, c1, rfl, -, -, -, -, hn, -⟩ := RowsR.of_own hk h0 hown
    refine wpList_plain hgd fun K hK => ?_
    unfold Oper.wp execOp
    simp only [ho, resolve, invoke, builtin, Sem.run_bind, Sem.run_pure, Result.andThen_ok, List.map_toArray, List.map_cons, List.map_nil, hs, hx, run_app0 t o.type e i ht hi A1 n c1 hn A c]
    exact hK _ _ (h _ _ (by rw [List.append_nil]; exact hown) (Below.refl _ _))
  · obtain ⟨b, of, rfl, -, -⟩ := hS 0 (by simp)
    refine wpList_append_own w hgd s y t ho base e i z k bytes ht hi hz hsize hby hzs h0 v n (rowsV enc xs) hs hown ⟨b, of, none⟩ m c (rowsV enc (y0 :: ys)) hx (by rw [rowsV_len hk, hm]) (RowsR.news hk h0 hS) (rowsV_one hone _) h63 hbytes hbase ?_
    intro v' w' h2 h3 _
    exact h v' w' (by rw [rowsV_append]; exact h2) ((Below.refl _ _).grown h3 hbase fun k hk => (hown.lt k hk).1)
def catO {α : Type} (xs ys zs : List α) (k : Nat) : List α := if k = 0 then [] else if k = 1 then xs else if k = 2 then xs ++ ys else xs ++ ys ++ zs
set_option maxRecDepth 100000 in
set_option maxHeartbeats 3200000 in
theorem concat_anyF (D : Nat) (A1 A2 A3 : Option Addr) (c1 c2 c3 : Nat) (xs ys zs : List Fx) (w : World) (hD : w.heap[D]? = some (.cells #[.slice A1 xs.length c1, .slice A2 ys.length c2, .slice A3 zs.length c3] 35 (0, 0)))
    (h1 : RowsR w A1 3 fxC xs) (h2 : RowsR w A2 3 fxC ys) (h3 : RowsR w A3 3 fxC zs) (l1 : xs.length ≤ 1000) (l2 : ys.length ≤ 1000) (l3 : zs.length ≤ 1000) :
    Calls Tryz.prog 98 #[.slice (some ⟨D, 0, none⟩) 3 3] w fun e w' => ∃ v, e = .returned v ∧ w'.ownsRow w.heap.size 44 3 v (xs ++ ys ++ zs).length (rowsV fxC (xs ++ ys ++ zs)) ∧ Below w.heap.size w w' := by
  obtain ⟨i0, hi, hz0, hz1, hz2⟩ := info_parts infoFx
  have HG := Lib.hid (grow_anyF (xs.length + ys.length + zs.length) (by omega) w)
  have d0 : w.cell? ⟨D, 0, none⟩ = some (.slice A1 xs.length c1) := by unfold World.cell?; rw [hD]; rfl
  have d1 : w.cell? ⟨D, 1, none⟩ = some (.slice A2 ys.length c2) := by unfold World.cell?; rw [hD]; rfl
  have d2 : w.cell? ⟨D, 2, none⟩ = some (.slice A3 zs.length c3) := by unfold World.cell?; rw [hD]; rfl
  have HD := Lib.hid hD
  have H1 := Lib.hid h1
  have H2 := Lib.hid h2
  have H3 := Lib.hid h3
  have e12 : ((xs.length + ys.length + zs.length : Nat) : Int) = (xs.length : Int) + (ys.length : Int) + (zs.length : Int) := by omega
  rw [e12] at HG
  clear hD h1 h2 h3 e12
  go_enter Tryz.func98, Tryz.ntmps98
  go_wp2
  go_loopw [3, 11] (fun s i wr => ∃ k : Nat, k ≤ 3 ∧ i = .int .i64 k ∧ s = .int .i64 (catO xs ys zs k).length ∧ w = wr) (fun i s _ => 3 - (intOf s).toNat)
  case atStart => exact ⟨0, by omega, rfl, rfl, rfl⟩
  case round =>
    obtain ⟨k, hk, rfl, rfl, rfl⟩ := hrel
    have hks : k = 0 ∨ k = 1 ∨ k = 2 ∨ k = 3 := by omega
    rcases hks with rfl | rfl | rfl | rfl
    · have e0 : ((catO xs ys zs 0).length : Int) = 0 := rfl
      rw [e0]
      go_wp2
      go_roundw
      case rel => exact ⟨1, by omega, by first | rfl | simp, by first | rfl | simp [catO], by first | rfl | trivial⟩
      case measure => simp [intOf]
    · have e0 : ((catO xs ys zs 1).length : Int) = (xs.length : Int) := rfl
      rw [e0]
      go_wp2
      go_roundw
      case rel => exact ⟨2, by omega, by first | rfl | simp, by simp [catO], by first | rfl | trivial⟩
      case measure => simp [intOf]
    · have e0 : ((catO xs ys zs 2).length : Int) = (xs.length : Int) + (ys.length : Int) := by simp [catO]
      rw [e0]
      go_wp2
      go_roundw
      case rel => exact ⟨3, by omega, by first | rfl | simp, by simp [catO]; try omega, by first | rfl | trivial⟩
      case measure => simp [intOf]
    · have e0 : ((catO xs ys zs 3).length : Int) = (xs.length : Int) + (ys.length : Int) + (zs.length : Int) := by simp [catO]; try omega
      rw [e0]
      go_wp2_with (go_at_call 138; ((with_reducible refine HG.out.mono ?_); rintro e w1 ⟨v, rfl, hown, _, _, hb⟩))
      have B1 := Lib.hid hb
      have O1 : Hid (w1.ownsRow w.heap.size 44 3 v 0 []) := hown
      clear hown hb HG d0 d1 d2
      go_loopw [6, 27] (fun s i wr => ∃ k : Nat, k ≤ 3 ∧ i = .int .i64 k ∧ Hid (wr.ownsRow w.heap.size 44 3 s (catO xs ys zs k).length (rowsV fxC (catO xs ys zs k))) ∧ Hid (Below w.heap.size w wr)) (fun _ i _ => 3 - (intOf i).toNat)
      case atStart => exact ⟨0, by omega, rfl, O1, B1⟩
      case round =>
        clear O1 B1
        obtain ⟨k, hk, rfl, hown, HB⟩ := hrel
        have hks : k = 0 ∨ k = 1 ∨ k = 2 ∨ k = 3 := by omega
        have hDr : wr.heap[D]? = some (.cells #[.slice A1 xs.length c1, .slice A2 ys.length c2, .slice A3 zs.length c3] 35 (0, 0)) := (HB.out.block D (lt_of_block HD.out)).trans HD.out
        have d0 : wr.cell? ⟨D, 0, none⟩ = some (.slice A1 xs.length c1) := by unfold World.cell?; rw [hDr]; rfl
        have d1 : wr.cell? ⟨D, 1, none⟩ = some (.slice A2 ys.length c2) := by unfold World.cell?; rw [hDr]; rfl
        have d2 : wr.cell? ⟨D, 2, none⟩ = some (.slice A3 zs.length c3) := by unfold World.cell?; rw [hDr]; rfl
        have HS := Lib.hid HB.out.size
        clear hDr
        obtain ⟨A', c', rfl, hl', -⟩ := RowsR.of_own fxC_len (by decide) hown.out
        clear hl'
        rcases hks with rfl | rfl | rfl | rfl
        · rw [show (catO xs ys zs 0).length = 0 from by simp [catO]] at hown ⊢
          go_wp2_with (at_builtin; refine wpList_appL fxC_len (by decide) fxC_one hown.out A1 xs xs.length c1 rfl (H1.out.below HB.out) rfl _ _ 35 rfl i0 _ 40 Tryz.underlying35 hi hz0 hz1 hz2 rfl rfl rfl (by unfold maxLen; omega) (by omega) HS.out ?_; intro v' w2 hown2 hb2; have O2 := Lib.hid hown2; have B2 := Lib.hid (HB.out.trans hb2); clear hown2 hb2)
          go_roundw
          case rel => exact ⟨1, by omega, by first | rfl | simp, by show World.ownsRow _ _ _ _ _ _ _; have := O2.out; simpa [catO, Nat.add_assoc] using this, B2⟩
          case measure => simp [intOf]
        · rw [show (catO xs ys zs 1).length = xs.length from by simp [catO]] at hown ⊢
          go_wp2_with (at_builtin; refine wpList_appL fxC_len (by decide) fxC_one hown.out A2 ys ys.length c2 rfl (H2.out.below HB.out) rfl _ _ 35 rfl i0 _ 40 Tryz.underlying35 hi hz0 hz1 hz2 rfl rfl rfl (by unfold maxLen; omega) (by omega) HS.out ?_; intro v' w2 hown2 hb2; have O2 := Lib.hid hown2; have B2 := Lib.hid (HB.out.trans hb2); clear hown2 hb2)
          go_roundw
          case rel => exact ⟨2, by omega, by first | rfl | simp, by show World.ownsRow _ _ _ _ _ _ _; have := O2.out; simpa [catO, Nat.add_assoc] using this, B2⟩
          case measure => simp [intOf]
        · rw [show (catO xs ys zs 2).length = xs.length + ys.length from by simp [catO]] at hown ⊢
          go_wp2_with (at_builtin; refine wpList_appL fxC_len (by decide) fxC_one hown.out A3 zs zs.length c3 rfl (H3.out.below HB.out) rfl _ _ 35 rfl i0 _ 40 Tryz.underlying35 hi hz0 hz1 hz2 rfl rfl rfl (by unfold maxLen; omega) (by omega) HS.out ?_; intro v' w2 hown2 hb2; have O2 := Lib.hid hown2; have B2 := Lib.hid (HB.out.trans hb2); clear hown2 hb2)
          go_roundw
          case rel => exact ⟨3, by omega, by first | rfl | simp, by show World.ownsRow _ _ _ _ _ _ _; have := O2.out; simpa [catO, Nat.add_assoc] using this, B2⟩
          case measure => simp [intOf]
        · go_wp2
          go_ret
          exact ⟨_, rfl, by have := hown.out; simpa [catO] using this, HB.out⟩
set_option maxRecDepth 100000 in
set_option maxHeartbeats 3200000 in
theorem concat_anyC (D : Nat) (A1 A2 A3 : Option Addr) (c1 c2 c3 : Nat) (xs ys zs : List Cx) (w : World) (hD : w.heap[D]? = some (.cells #[.slice A1 xs.length c1, .slice A2 ys.length c2, .slice A3 zs.length c3] 36 (0, 0)))
    (h1 : RowsR w A1 4 cxC xs) (h2 : RowsR w A2 4 cxC ys) (h3 : RowsR w A3 4 cxC zs) (l1 : xs.length ≤ 1000) (l2 : ys.length ≤ 1000) (l3 : zs.length ≤ 1000) :
    Calls Tryz.prog 103 #[.slice (some ⟨D, 0, none⟩) 3 3] w fun e w' => ∃ v, e = .returned v ∧ w'.ownsRow w.heap.size 47 4 v (xs ++ ys ++ zs).length (rowsV cxC (xs ++ ys ++ zs)) ∧ Below w.heap.size w w' := by
  obtain ⟨i0, hi, hz0, hz1, hz2⟩ := info_parts infoCx
  have HG := Lib.hid (grow_anyC (xs.length + ys.length + zs.length) (by omega) w)
  have d0 : w.cell? ⟨D, 0, none⟩ = some (.slice A1 xs.length c1) := by unfold World.cell?; rw [hD]; rfl
  have d1 : w.cell? ⟨D, 1, none⟩ = some (.slice A2 ys.length c2) := by unfold World.cell?; rw [hD]; rfl
  have d2 : w.cell? ⟨D, 2, none⟩ = some (.slice A3 zs.length c3) := by unfold World.cell?; rw [hD]; rfl
  have HD := Lib.hid hD
  have H1 := Lib.hid h1
  have H2 := Lib.hid h2
  have H3 := Lib.hid h3
  have e12 : ((xs.length + ys.length + zs.length : Nat) : Int) = (xs.length : Int) + (ys.length : Int) + (zs.length : Int) := by omega
  rw [e12] at HG
  clear hD h1 h2 h3 e12
  go_enter Tryz.func103, Tryz.ntmps103
  go_wp2
  go_loopw [3, 11] (fun s i wr => ∃ k : Nat, k ≤ 3 ∧ i = .int .i64 k ∧ s = .int .i64 (catO xs ys zs k).length ∧ w = wr) (fun i s _ => 3 - (intOf s).toNat)
  case atStart => exact ⟨0, by omega, rfl, rfl, rfl⟩
  case round =>
    obtain ⟨k, hk, rfl, rfl, rfl⟩ := hrel
    have hks : k = 0 ∨ k = 1 ∨ k = 2 ∨ k = 3 := by omega
    rcases hks with rfl | rfl | rfl | rfl
    · have e0 : ((catO xs ys zs 0).length : Int) = 0 := rfl
      rw [e0]
      go_wp2
      go_roundw
      case rel => exact ⟨1, by omega, by first | rfl | simp, by first | rfl | simp [catO], by first | rfl | trivial⟩
      case measure => simp [intOf]
    · have e0 : ((catO xs ys zs 1).length : Int) = (xs.length : Int) := rfl
      rw [e0]
      go_wp2
      go_roundw
      case rel => exact ⟨2, by omega, by first | rfl | simp, by simp [catO], by first | rfl | trivial⟩
      case measure => simp [intOf]
    · have e0 : ((catO xs ys zs 2).length : Int) = (xs.length : Int) + (ys.length : Int) := by simp [catO]
      rw [e0]
      go_wp2
      go_roundw
      case rel => exact ⟨3, by omega, by first | rfl | simp, by simp [catO]; try omega, by first | rfl | trivial⟩
      case measure => simp [intOf]
    · have e0 : ((catO xs ys zs 3).length : Int) = (xs.length : Int) + (ys.length : Int) + (zs.length : Int) := by simp [catO]; try omega
      rw [e0]
      go_wp2_with (go_at_call 141; ((with_reducible refine HG.out.mono ?_); rintro e w1 ⟨v, rfl, hown, _, _, hb⟩))
      have B1 := Lib.hid hb
      have O1 : Hid (w1.ownsRow w.heap.size 47 4 v 0 []) := hown
      clear hown hb HG d0 d1 d2
      go_loopw [6, 27] (fun s i wr => ∃ k : Nat, k ≤ 3 ∧ i = .int .i64 k ∧ Hid (wr.ownsRow w.heap.size 47 4 s (catO xs ys zs k).length (rowsV cxC (catO xs ys zs k))) ∧ Hid (Below w.heap.size w wr)) (fun _ i _ => 3 - (intOf i).toNat)
      case atStart => exact ⟨0, by omega, rfl, O1, B1⟩
      case round =>
        clear O1 B1
        obtain ⟨k, hk, rfl, hown, HB⟩ := hrel
        have hks : k = 0 ∨ k = 1 ∨ k = 2 ∨ k = 3 := by omega
        have hDr : wr.heap[D]? = some (.cells #[.slice A1 xs.length c1, .slice A2 ys.length c2, .slice A3 zs.length c3] 36 (0, 0)) := (HB.out.block D (lt_of_block HD.out)).trans HD.out
        have d0 : wr.cell? ⟨D, 0, none⟩ = some (.slice A1 xs.length c1) := by unfold World.cell?; rw [hDr]; rfl
        have d1 : wr.cell? ⟨D, 1, none⟩ = some (.slice A2 ys.length c2) := by unfold World.cell?; rw [hDr]; rfl
        have d2 : wr.cell? ⟨D, 2, none⟩ = some (.slice A3 zs.length c3) := by unfold World.cell?; rw [hDr]; rfl
        have HS := Lib.hid HB.out.size
        clear hDr
        obtain ⟨A', c', rfl, hl', -⟩ := RowsR.of_own cxC_len (by decide) hown.out
        clear hl'
        rcases hks with rfl | rfl | rfl | rfl
        · rw [show (catO xs ys zs 0).length = 0 from by simp [catO]] at hown ⊢
          go_wp2_with (at_builtin; refine wpList_appL cxC_len (by decide) cxC_one hown.out A1 xs xs.length c1 rfl (H1.out.below HB.out) rfl _ _ 36 rfl i0 _ 48 Tryz.underlying36 hi hz0 hz1 hz2 rfl rfl rfl (by unfold maxLen; omega) (by omega) HS.out ?_; intro v' w2 hown2 hb2; have O2 := Lib.hid hown2; have B2 := Lib.hid (HB.out.trans hb2); clear hown2 hb2)
          go_roundw
          case rel => exact ⟨1, by omega, by first | rfl | simp, by show World.ownsRow _ _ _ _ _ _ _; have := O2.out; simpa [catO, Nat.add_assoc] using this, B2⟩
          case measure => simp [intOf]
        · rw [show (catO xs ys zs 1).length = xs.length from by simp [catO]] at hown ⊢
          go_wp2_with (at_builtin; refine wpList_appL cxC_len (by decide) cxC_one hown.out A2 ys ys.length c2 rfl (H2.out.below HB.out) rfl _ _ 36 rfl i0 _ 48 Tryz.underlying36 hi hz0 hz1 hz2 rfl rfl rfl (by unfold maxLen; omega) (by omega) HS.out ?_; intro v' w2 hown2 hb2; have O2 := Lib.hid hown2; have B2 := Lib.hid (HB.out.trans hb2); clear hown2 hb2)
          go_roundw
          case rel => exact ⟨2, by omega, by first | rfl | simp, by show World.ownsRow _ _ _ _ _ _ _; have := O2.out; simpa [catO, Nat.add_assoc] using this, B2⟩
          case measure => simp [intOf]
        · rw [show (catO xs ys zs 2).length = xs.length + ys.length from by simp [catO]] at hown ⊢
          go_wp2_with (at_builtin; refine wpList_appL cxC_len (by decide) cxC_one hown.out A3 zs zs.length c3 rfl (H3.out.below HB.out) rfl _ _ 36 rfl i0 _ 48 Tryz.underlying36 hi hz0 hz1 hz2 rfl rfl rfl (by unfold maxLen; omega) (by omega) HS.out ?_; intro v' w2 hown2 hb2; have O2 := Lib.hid hown2; have B2 := Lib.hid (HB.out.trans hb2); clear hown2 hb2)
          go_roundw
          case rel => exact ⟨3, by omega, by first | rfl | simp, by show World.ownsRow _ _ _ _ _ _ _; have := O2.out; simpa [catO, Nat.add_assoc] using this, B2⟩
          case measure => simp [intOf]
        · go_wp2
          go_ret
          exact ⟨_, rfl, by have := hown.out; simpa [catO] using this, HB.out⟩
end Go.Proofs.YtbfimfjhdbpenaaGreatDoor
/- Layer 8: placed over fixings. -/
namespace Go.Proofs.YtbfimfjhdbpenaaGreatDoor
open Go Go.RowKit Go.BigFrame
theorem RowsR.take {α : Type} {w : World} {A : Option Addr} {k : Nat} {enc : α → List Value} {l : List α} (h : RowsR w A k enc l) (p : Nat) : RowsR w A k enc (l.take p) := fun j hj => by
  have hj' : j < l.length := by rw [List.length_take] at hj; omega
  rw [List.getElem_take]
  exact h j hj'
theorem RowsR.drop {α : Type} {w : World} {ad : Addr} {k : Nat} {enc : α → List Value} {l : List α} (h : RowsR w (some ad) k enc l) (p : Nat) : RowsR w (some (ad.add (p * k))) k enc (l.drop p) := fun j hj => by
  have hj' : p + j < l.length := by rw [List.length_drop] at hj; omega
  rw [List.getElem_drop]
  obtain ⟨b, o, h1, h2, h3⟩ := h (p + j) hj'
  injection h1 with h1
  subst h1
  refine ⟨b, o + p * k, by rw [add_off], h2, fun i u hu => ?_⟩
  rw [show o + p * k + (j * k + i) = o + ((p + j) * k + i) by rw [Nat.add_mul]; omega]
  exact h3 i u hu
theorem own_lowO {w : World} {base base' : Nat} {e : TypeId} {size : Nat} {v : Value} {n : Nat} {xs : List Value} (h : w.ownsRow base e size v n xs) (hb : base' ≤ base) : w.ownsRow base' e size v n xs := by
  refine ⟨h.1, ?_⟩
  rcases h.2 with h0 | ⟨g, cap, cur, hv, hg, r⟩
  · exact .inl h0
  · exact .inr ⟨g, cap, cur, hv, Nat.le_trans hb hg, r⟩
def OwnR (T : TypeId) (k : Nat) (xs : List Value) (n : Nat) (w : World) (e : Ending) (w' : World) : Prop := ∃ v, e = .returned v ∧ w'.ownsRow w.heap.size T k v n xs ∧ Below w.heap.size w w'
theorem concat3F (W : World) (A1 A3 : Option Addr) (c1 c3 : Nat) (xs zs : List Fx) (n v : ByteArray) (d : Int) (h1 : RowsR W A1 3 fxC xs) (h3 : RowsR W A3 3 fxC zs) (l1 : xs.length ≤ 1000) (l3 : zs.length ≤ 1000) (n1 n3 : Nat) (e1 : xs.length = n1) (e3 : zs.length = n3) (L : List Fx) (hL : xs ++ [(n, d, v)] ++ zs = L) (X Y : Obj) (hX : X = .cells #[.string n, .int .i64 d, .string v] 44) (hY : Y = .cells #[.slice A1 n1 c1, .slice (some ⟨W.heap.size, 0, none⟩) 1 1, .slice A3 n3 c3] 35) (D : Nat) (hD : D = W.heap.size + 1) :
    Calls Tryz.prog 98 #[.slice (some ⟨D, 0, none⟩) 3 3] ((W.alloc X).alloc Y).drew (OwnR 44 3 (rowsV fxC L) L.length W) := by
  subst e1 e3 hX hY hL
  obtain rfl : D = (W.alloc (.cells #[.string n, .int .i64 d, .string v] 44)).heap.size := by rw [hD, World.size_alloc]
  clear hD
  have b1 := belO W (.cells #[.string n, .int .i64 d, .string v] 44)
  have hr := heap_alloc_new W (.cells #[.string n, .int .i64 d, .string v] 44)
  generalize W.alloc (.cells #[.string n, .int .i64 d, .string v] 44) = w1 at *
  have b2 := belO w1 (.cells #[.slice A1 xs.length c1, .slice (some ⟨W.heap.size, 0, none⟩) 1 1, .slice A3 zs.length c3] 35)
  have hr2 := heap_alloc_new w1 (.cells #[.slice A1 xs.length c1, .slice (some ⟨W.heap.size, 0, none⟩) 1 1, .slice A3 zs.length c3] 35)
  generalize w1.alloc (.cells #[.slice A1 xs.length c1, .slice (some ⟨W.heap.size, 0, none⟩) 1 1, .slice A3 zs.length c3] 35) = w2 at *
  have b12 : Below W.heap.size W w2.drew := (btO b1 b2).drew
  replace hr2 : w2.drew.heap[w1.heap.size]? = _ := hr2
  replace b2 : Below w1.heap.size w1 w2.drew := b2.drew
  generalize w2.drew = w2 at *
  have hm : RowsR w2 (some ⟨W.heap.size, 0, none⟩) 3 fxC [(n, d, v)] := by
    intro j hj
    obtain rfl : j = 0 := by simpa using hj
    have hrw := (b2.block _ (lt_of_block hr)).trans hr
    refine ⟨W.heap.size, 0, rfl, lt_of_block hrw, fun i u hu => ?_⟩
    simp only [Nat.zero_mul, Nat.zero_add]
    exact row_cell hrw (by simpa [fxC] using hu)
  refine (concat_anyF w1.heap.size A1 (some ⟨W.heap.size, 0, none⟩) A3 c1 1 c3 xs [(n, d, v)] zs w2 hr2 (h1.below b12) hm (h3.below b12) l1 (by simp) l3).mono ?_
  rintro e w' ⟨u, rfl, ho, hb⟩
  exact ⟨u, rfl, own_lowO ho b12.size, btO b12 hb⟩
def PlcR (T : TypeId) (k : Nat) (xs : List Value) (n : Nat) (w : World) (e : Ending) (w' : World) : Prop := ∃ v, e = .returned (.tuple #[v, .int .i64 0]) ∧ w'.ownsRow w.heap.size T k v n xs ∧ Below w.heap.size w w'
theorem plc_own {T : TypeId} {k : Nat} {xs : List Value} {n : Nat} {w w5 w' : World} {v : Value} (h : w'.ownsRow w5.heap.size T k v n xs) (hb : Below w5.heap.size w5 w') (h5 : Below w.heap.size w w5) : PlcR T k xs n w (.returned (.tuple #[v, .int .i64 0])) w' := ⟨v, rfl, own_lowO h h5.size, btO h5 hb⟩
structure PlS (q : Nat) (n v : ByteArray) (d : Int) (w5 w' : World) : Prop where
  c0 : w'.cell? ⟨q, 0, none⟩ = some (.string n)
  c1 : w'.cell? ⟨q, 1, none⟩ = some (.int .i64 d)
  c2 : w'.cell? ⟨q, 2, none⟩ = some (.string v)
  bel : Below w5.heap.size w5 w'
theorem PlS.all {q : Nat} {n v : ByteArray} {d : Int} {w5 w' : World} (h : PlS q n v d w5 w') : PlS q n v d w5 w' ∧ w'.cell? ⟨q, 0, none⟩ = some (.string n) ∧ w'.cell? ⟨q, 1, none⟩ = some (.int .i64 d) ∧ w'.cell? ⟨q, 2, none⟩ = some (.string v) := ⟨h, h.c0, h.c1, h.c2⟩
theorem PlS.to {q : Nat} {n v : ByteArray} {d : Int} {w5 w' w'' : World} (h : PlS q n v d w5 w') (hb : Below w'.heap.size w' w'') : PlS q n v d w5 w'' := ⟨cellO hb h.c0, cellO hb h.c1, cellO hb h.c2, btO h.bel hb⟩
theorem PlS.drew {q : Nat} {n v : ByteArray} {d : Int} {w5 w' : World} (h : PlS q n v d w5 w') : PlS q n v d w5 w'.drew := h.to (Below.refl _ _).drew
theorem PlS.alloc {q : Nat} {n v : ByteArray} {d : Int} {w5 w' : World} (h : PlS q n v d w5 w') (o : Obj) : PlS q n v d w5 (w'.alloc o) := h.to (belO _ _)
section
variable (n v : ByteArray) (d : Int)
set_option maxRecDepth 100000 in
set_option maxHeartbeats 6400000 in
theorem placedF_mid (ad : Addr) (N c p : Nat) (hp : p ≤ N) (hNc : N ≤ c) (hcm : c ≤ maxLen) (hcp : ¬ c = p) (w : World) (hl : N ≤ 1000)
    (hS : ∀ W, Below w.heap.size w W → Calls Tryz.prog 97 #[.slice (some ad) N c, .agg #[.string n, .int .i64 d, .string v], .func (.func 56) #[] #[]] W (SrcR p false W))
    (Lr : List Value) (m : Nat) (hm : m = p + 1 + (N - p)) (hC : ∀ W, Below w.heap.size w W → Calls Tryz.prog 98 #[.slice (some ⟨W.heap.size + 1, 0, none⟩) 3 3] ((W.alloc (.cells #[.string n, .int .i64 d, .string v] 44)).alloc (.cells #[.slice (some ad) p c, .slice (some ⟨W.heap.size, 0, none⟩) 1 1, .slice (some (ad.add (p * 3))) (N - p) (c - p)] 35)).drew (OwnR 44 3 Lr m W)) :
    Calls Tryz.prog 55 #[.slice (some ad) N c, .agg #[.string n, .int .i64 d, .string v], .func (.func 56) #[] #[]] w fun e w' =>
      (m ≤ 1000 ∧ PlcR 44 3 Lr m w e w') ∨ (1000 < m ∧ e = .returned (.tuple #[.slice none 0 0, .int .i64 22]) ∧ Below w.heap.size w w') := by
  have HB1 := belO w (.cells #[.string n, .int .i64 d, .string v] 44)
  obtain ⟨w1, hw1⟩ : ∃ w1, w.alloc (.cells #[.string n, .int .i64 d, .string v] 44) = w1 := ⟨_, rfl⟩
  have f0 : w1.cell? ⟨w.heap.size, 0, none⟩ = some (.string n) := by rw [← hw1, World.cell?_alloc_at _ _ _ _ rfl]; rfl
  have f1 : w1.cell? ⟨w.heap.size, 1, none⟩ = some (.int .i64 d) := by rw [← hw1, World.cell?_alloc_at _ _ _ _ rfl]; rfl
  have f2 : w1.cell? ⟨w.heap.size, 2, none⟩ = some (.string v) := by rw [← hw1, World.cell?_alloc_at _ _ _ _ rfl]; rfl
  rw [hw1] at HB1
  have HB := Lib.hid HB1
  have HS := Lib.hid hS
  have HC := Lib.hid hC
  have HM := Lib.hid hm
  have HF := Lib.hid (And.intro f0 (And.intro f1 f2))
  clear HB1 hS hC hm
  by_cases hfull : (1000 : Int) ≤ (p : Int) + ((N - p : Nat) : Int)
  all_goals
    go_enter Tryz.func55, Tryz.ntmps55
    go_wp2_with (go_at_call 97; ((with_reducible refine (HS.out _ HB.out).mono ?_); rintro x w5 ⟨rfl, hb⟩; have M5 := Lib.hid hb; obtain ⟨g0, g1, g2⟩ := HF.out; have t0 := cellO hb g0; have t1 := cellO hb g1; have t2 := cellO hb g2; clear hb g0 g1 g2))
  · go_ret2
    exact .inr ⟨by have := HM.out; omega, rfl, btO HB.out M5.out⟩
  · clear hw1 f0 f1 f2
    have i1 : (0 : Int) ≤ (p : Int) := by omega
    have i2 : (p : Int) ≤ (c : Int) := by omega
    have i3 : ¬ c = 0 := by omega
    have P0 : PlS w.heap.size n v d w5 w5 := ⟨t0, t1, t2, Below.refl _ _⟩
    have HW := Lib.hid (btO HB.out M5.out)
    clear HF HS HB M5
    go_region_held3 (fun w' => PlS w.heap.size n v d w5 w' ∧ w'.cell? ⟨w.heap.size, 0, none⟩ = some (.string n) ∧ w'.cell? ⟨w.heap.size, 1, none⟩ = some (.int .i64 d) ∧ w'.cell? ⟨w.heap.size, 2, none⟩ = some (.string v))
      (((try go_split_ands); refine PlS.all ?_; first
        | assumption | exact P0.drew | exact (P0.alloc _).drew | exact ((P0.alloc _).alloc _).drew | exact PlS.alloc (by assumption) _ | exact PlS.drew (by assumption)))
      (first
        | (go_split_ands; go_at_call 98; refine (HC.out _ HW.out).mono ?_; rintro e w6 ⟨u, rfl, hown, hb6⟩; have P6 : PlS w.heap.size n v d w5 w6 := P0.to hb6; have O6 := Lib.hid hown; have M6 := Lib.hid hb6; clear hown hb6))
    all_goals
      go_wp2_with (fail)
      go_ret2
      exact .inl ⟨by have := HM.out; omega, plc_own O6.out M6.out HW.out⟩
set_option maxRecDepth 100000 in
set_option maxHeartbeats 6400000 in
theorem placedF_end (ad : Addr) (p : Nat) (hpm : p ≤ maxLen) (h0 : ¬ p = 0) (w : World) (hl : p ≤ 1000)
    (hS : ∀ W, Below w.heap.size w W → Calls Tryz.prog 97 #[.slice (some ad) p p, .agg #[.string n, .int .i64 d, .string v], .func (.func 56) #[] #[]] W (SrcR p false W))
    (Lr : List Value) (m : Nat) (hm : m = p + 1 + (0)) (hC : ∀ W, Below w.heap.size w W → Calls Tryz.prog 98 #[.slice (some ⟨W.heap.size + 1, 0, none⟩) 3 3] ((W.alloc (.cells #[.string n, .int .i64 d, .string v] 44)).alloc (.cells #[.slice (some ad) p p, .slice (some ⟨W.heap.size, 0, none⟩) 1 1, .slice (some ad) (0) (0)] 35)).drew (OwnR 44 3 Lr m W)) :
    Calls Tryz.prog 55 #[.slice (some ad) p p, .agg #[.string n, .int .i64 d, .string v], .func (.func 56) #[] #[]] w fun e w' =>
      (m ≤ 1000 ∧ PlcR 44 3 Lr m w e w') ∨ (1000 < m ∧ e = .returned (.tuple #[.slice none 0 0, .int .i64 22]) ∧ Below w.heap.size w w') := by
  have HB1 := belO w (.cells #[.string n, .int .i64 d, .string v] 44)
  obtain ⟨w1, hw1⟩ : ∃ w1, w.alloc (.cells #[.string n, .int .i64 d, .string v] 44) = w1 := ⟨_, rfl⟩
  have f0 : w1.cell? ⟨w.heap.size, 0, none⟩ = some (.string n) := by rw [← hw1, World.cell?_alloc_at _ _ _ _ rfl]; rfl
  have f1 : w1.cell? ⟨w.heap.size, 1, none⟩ = some (.int .i64 d) := by rw [← hw1, World.cell?_alloc_at _ _ _ _ rfl]; rfl
  have f2 : w1.cell? ⟨w.heap.size, 2, none⟩ = some (.string v) := by rw [← hw1, World.cell?_alloc_at _ _ _ _ rfl]; rfl
  rw [hw1] at HB1
  have HB := Lib.hid HB1
  have HS := Lib.hid hS
  have HC := Lib.hid hC
  have HM := Lib.hid hm
  have HF := Lib.hid (And.intro f0 (And.intro f1 f2))
  clear HB1 hS hC hm
  by_cases hfull : (1000 : Int) ≤ (p : Int) + ((0 : Nat) : Int)
  all_goals
    go_enter Tryz.func55, Tryz.ntmps55
    go_wp2_with (go_at_call 97; ((with_reducible refine (HS.out _ HB.out).mono ?_); rintro x w5 ⟨rfl, hb⟩; have M5 := Lib.hid hb; obtain ⟨g0, g1, g2⟩ := HF.out; have t0 := cellO hb g0; have t1 := cellO hb g1; have t2 := cellO hb g2; clear hb g0 g1 g2))
  · go_ret2
    exact .inr ⟨by have := HM.out; omega, rfl, btO HB.out M5.out⟩
  · clear hw1 f0 f1 f2
    have i1 : (0 : Int) ≤ (p : Int) := by omega
    have i2 : (p : Int) ≤ (p : Int) := by omega
    have i3 : ¬ p = 0 := h0
    have P0 : PlS w.heap.size n v d w5 w5 := ⟨t0, t1, t2, Below.refl _ _⟩
    have HW := Lib.hid (btO HB.out M5.out)
    clear HF HS HB M5
    go_region_held3 (fun w' => PlS w.heap.size n v d w5 w' ∧ w'.cell? ⟨w.heap.size, 0, none⟩ = some (.string n) ∧ w'.cell? ⟨w.heap.size, 1, none⟩ = some (.int .i64 d) ∧ w'.cell? ⟨w.heap.size, 2, none⟩ = some (.string v))
      (((try go_split_ands); refine PlS.all ?_; first
        | assumption | exact P0.drew | exact (P0.alloc _).drew | exact ((P0.alloc _).alloc _).drew | exact PlS.alloc (by assumption) _ | exact PlS.drew (by assumption)))
      (first
        | (go_split_ands; go_at_call 98; refine (HC.out _ HW.out).mono ?_; rintro e w6 ⟨u, rfl, hown, hb6⟩; have P6 : PlS w.heap.size n v d w5 w6 := P0.to hb6; have O6 := Lib.hid hown; have M6 := Lib.hid hb6; clear hown hb6))
    all_goals
      go_wp2_with (fail)
      go_ret2
      exact .inl ⟨by have := HM.out; omega, plc_own O6.out M6.out HW.out⟩
set_option maxRecDepth 100000 in
set_option maxHeartbeats 6400000 in
theorem placedF_zero (A : Option Addr) (w : World) (hl : 0 ≤ 1000)
    (hS : ∀ W, Below w.heap.size w W → Calls Tryz.prog 97 #[.slice A 0 0, .agg #[.string n, .int .i64 d, .string v], .func (.func 56) #[] #[]] W (SrcR 0 false W))
    (Lr : List Value) (m : Nat) (hm : m = 0 + 1 + (0)) (hC : ∀ W, Below w.heap.size w W → Calls Tryz.prog 98 #[.slice (some ⟨W.heap.size + 1, 0, none⟩) 3 3] ((W.alloc (.cells #[.string n, .int .i64 d, .string v] 44)).alloc (.cells #[.slice A 0 0, .slice (some ⟨W.heap.size, 0, none⟩) 1 1, .slice A (0) (0)] 35)).drew (OwnR 44 3 Lr m W)) :
    Calls Tryz.prog 55 #[.slice A 0 0, .agg #[.string n, .int .i64 d, .string v], .func (.func 56) #[] #[]] w fun e w' =>
      (m ≤ 1000 ∧ PlcR 44 3 Lr m w e w') ∨ (1000 < m ∧ e = .returned (.tuple #[.slice none 0 0, .int .i64 22]) ∧ Below w.heap.size w w') := by
  have HB1 := belO w (.cells #[.string n, .int .i64 d, .string v] 44)
  obtain ⟨w1, hw1⟩ : ∃ w1, w.alloc (.cells #[.string n, .int .i64 d, .string v] 44) = w1 := ⟨_, rfl⟩
  have f0 : w1.cell? ⟨w.heap.size, 0, none⟩ = some (.string n) := by rw [← hw1, World.cell?_alloc_at _ _ _ _ rfl]; rfl
  have f1 : w1.cell? ⟨w.heap.size, 1, none⟩ = some (.int .i64 d) := by rw [← hw1, World.cell?_alloc_at _ _ _ _ rfl]; rfl
  have f2 : w1.cell? ⟨w.heap.size, 2, none⟩ = some (.string v) := by rw [← hw1, World.cell?_alloc_at _ _ _ _ rfl]; rfl
  rw [hw1] at HB1
  have HB := Lib.hid HB1
  have HS := Lib.hid hS
  have HC := Lib.hid hC
  have HM := Lib.hid hm
  have HF := Lib.hid (And.intro f0 (And.intro f1 f2))
  clear HB1 hS hC hm
  have hfull : ¬ ((1000 : Int) ≤ (0 : Int) + ((0 : Nat) : Int)) := by omega
  all_goals
    go_enter Tryz.func55, Tryz.ntmps55
    go_wp2_with (go_at_call 97; ((with_reducible refine (HS.out _ HB.out).mono ?_); rintro x w5 ⟨rfl, hb⟩; have M5 := Lib.hid hb; obtain ⟨g0, g1, g2⟩ := HF.out; have t0 := cellO hb g0; have t1 := cellO hb g1; have t2 := cellO hb g2; clear hb g0 g1 g2))
  · clear hw1 f0 f1 f2
    have P0 : PlS w.heap.size n v d w5 w5 := ⟨t0, t1, t2, Below.refl _ _⟩
    have HW := Lib.hid (btO HB.out M5.out)
    clear HF HS HB M5
    go_region_held3 (fun w' => PlS w.heap.size n v d w5 w' ∧ w'.cell? ⟨w.heap.size, 0, none⟩ = some (.string n) ∧ w'.cell? ⟨w.heap.size, 1, none⟩ = some (.int .i64 d) ∧ w'.cell? ⟨w.heap.size, 2, none⟩ = some (.string v))
      (((try go_split_ands); refine PlS.all ?_; first
        | assumption | exact P0.drew | exact (P0.alloc _).drew | exact ((P0.alloc _).alloc _).drew | exact PlS.alloc (by assumption) _ | exact PlS.drew (by assumption)))
      (first
        | (go_split_ands; go_at_call 98; refine (HC.out _ HW.out).mono ?_; rintro e w6 ⟨u, rfl, hown, hb6⟩; have P6 : PlS w.heap.size n v d w5 w6 := P0.to hb6; have O6 := Lib.hid hown; have M6 := Lib.hid hb6; clear hown hb6))
    all_goals
      go_wp2_with (fail)
      go_ret2
      exact .inl ⟨by have := HM.out; omega, plc_own O6.out M6.out HW.out⟩
set_option maxRecDepth 100000 in
set_option maxHeartbeats 6400000 in
theorem placedF_eq (ad : Addr) (N c p : Nat) (hp : p < N) (hNc : N ≤ c) (hcm : c ≤ maxLen) (hcp : ¬ c = p) (hcq : ¬ c = p + 1) (hp1 : (p : Int) + 1 ≤ (N : Int)) (w : World) (hl : N ≤ 1000)
    (hS : ∀ W, Below w.heap.size w W → Calls Tryz.prog 97 #[.slice (some ad) N c, .agg #[.string n, .int .i64 d, .string v], .func (.func 56) #[] #[]] W (SrcR p true W))
    (Lr : List Value) (m : Nat) (hm : m = p + 1 + (N - (p + 1))) (hC : ∀ W, Below w.heap.size w W → Calls Tryz.prog 98 #[.slice (some ⟨W.heap.size + 1, 0, none⟩) 3 3] ((W.alloc (.cells #[.string n, .int .i64 d, .string v] 44)).alloc (.cells #[.slice (some ad) p c, .slice (some ⟨W.heap.size, 0, none⟩) 1 1, .slice (some (ad.add ((p + 1) * 3))) (N - (p + 1)) (c - (p + 1))] 35)).drew (OwnR 44 3 Lr m W)) :
    Calls Tryz.prog 55 #[.slice (some ad) N c, .agg #[.string n, .int .i64 d, .string v], .func (.func 56) #[] #[]] w fun e w' =>
      (m ≤ 1000 ∧ PlcR 44 3 Lr m w e w') ∨ (1000 < m ∧ e = .returned (.tuple #[.slice none 0 0, .int .i64 22]) ∧ Below w.heap.size w w') := by
  have HB1 := belO w (.cells #[.string n, .int .i64 d, .string v] 44)
  obtain ⟨w1, hw1⟩ : ∃ w1, w.alloc (.cells #[.string n, .int .i64 d, .string v] 44) = w1 := ⟨_, rfl⟩
  have f0 : w1.cell? ⟨w.heap.size, 0, none⟩ = some (.string n) := by rw [← hw1, World.cell?_alloc_at _ _ _ _ rfl]; rfl
  have f1 : w1.cell? ⟨w.heap.size, 1, none⟩ = some (.int .i64 d) := by rw [← hw1, World.cell?_alloc_at _ _ _ _ rfl]; rfl
  have f2 : w1.cell? ⟨w.heap.size, 2, none⟩ = some (.string v) := by rw [← hw1, World.cell?_alloc_at _ _ _ _ rfl]; rfl
  rw [hw1] at HB1
  have HB := Lib.hid HB1
  have HS := Lib.hid hS
  have HC := Lib.hid hC
  have HM := Lib.hid hm
  have HF := Lib.hid (And.intro f0 (And.intro f1 f2))
  clear HB1 hS hC hm
  by_cases hfull : (1000 : Int) ≤ (p : Int) + ((N - (p + 1) : Nat) : Int)
  all_goals
    go_enter Tryz.func55, Tryz.ntmps55
    go_wp2_with (go_at_call 97; ((with_reducible refine (HS.out _ HB.out).mono ?_); rintro x w5 ⟨rfl, hb⟩; have M5 := Lib.hid hb; obtain ⟨g0, g1, g2⟩ := HF.out; have t0 := cellO hb g0; have t1 := cellO hb g1; have t2 := cellO hb g2; clear hb g0 g1 g2))
  · go_ret2
    exact .inr ⟨by have := HM.out; omega, rfl, btO HB.out M5.out⟩
  · clear hw1 f0 f1 f2
    have i1 : (0 : Int) ≤ (p : Int) := by omega
    have i2 : (p : Int) ≤ (c : Int) := by omega
    have i3 : ¬ c = 0 := by omega
    have P0 : PlS w.heap.size n v d w5 w5 := ⟨t0, t1, t2, Below.refl _ _⟩
    have HW := Lib.hid (btO HB.out M5.out)
    clear HF HS HB M5
    go_region_held3 (fun w' => PlS w.heap.size n v d w5 w' ∧ w'.cell? ⟨w.heap.size, 0, none⟩ = some (.string n) ∧ w'.cell? ⟨w.heap.size, 1, none⟩ = some (.int .i64 d) ∧ w'.cell? ⟨w.heap.size, 2, none⟩ = some (.string v))
      (((try go_split_ands); refine PlS.all ?_; first
        | assumption | exact P0.drew | exact (P0.alloc _).drew | exact ((P0.alloc _).alloc _).drew | exact PlS.alloc (by assumption) _ | exact PlS.drew (by assumption)))
      (first
        | (go_split_ands; go_at_call 98; refine (HC.out _ HW.out).mono ?_; rintro e w6 ⟨u, rfl, hown, hb6⟩; have P6 : PlS w.heap.size n v d w5 w6 := P0.to hb6; have O6 := Lib.hid hown; have M6 := Lib.hid hb6; clear hown hb6))
    all_goals
      go_wp2_with (fail)
      go_ret2
      exact .inl ⟨by have := HM.out; omega, plc_own O6.out M6.out HW.out⟩
set_option maxRecDepth 100000 in
set_option maxHeartbeats 6400000 in
theorem placedF_last (ad : Addr) (p : Nat) (hcm : p + 1 ≤ maxLen) (w : World) (hl : (p + 1) ≤ 1000)
    (hS : ∀ W, Below w.heap.size w W → Calls Tryz.prog 97 #[.slice (some ad) (p + 1) (p + 1), .agg #[.string n, .int .i64 d, .string v], .func (.func 56) #[] #[]] W (SrcR p true W))
    (Lr : List Value) (m : Nat) (hm : m = p + 1 + (0)) (hC : ∀ W, Below w.heap.size w W → Calls Tryz.prog 98 #[.slice (some ⟨W.heap.size + 1, 0, none⟩) 3 3] ((W.alloc (.cells #[.string n, .int .i64 d, .string v] 44)).alloc (.cells #[.slice (some ad) p (p + 1), .slice (some ⟨W.heap.size, 0, none⟩) 1 1, .slice (some ad) (0) (0)] 35)).drew (OwnR 44 3 Lr m W)) :
    Calls Tryz.prog 55 #[.slice (some ad) (p + 1) (p + 1), .agg #[.string n, .int .i64 d, .string v], .func (.func 56) #[] #[]] w fun e w' =>
      (m ≤ 1000 ∧ PlcR 44 3 Lr m w e w') ∨ (1000 < m ∧ e = .returned (.tuple #[.slice none 0 0, .int .i64 22]) ∧ Below w.heap.size w w') := by
  have HB1 := belO w (.cells #[.string n, .int .i64 d, .string v] 44)
  obtain ⟨w1, hw1⟩ : ∃ w1, w.alloc (.cells #[.string n, .int .i64 d, .string v] 44) = w1 := ⟨_, rfl⟩
  have f0 : w1.cell? ⟨w.heap.size, 0, none⟩ = some (.string n) := by rw [← hw1, World.cell?_alloc_at _ _ _ _ rfl]; rfl
  have f1 : w1.cell? ⟨w.heap.size, 1, none⟩ = some (.int .i64 d) := by rw [← hw1, World.cell?_alloc_at _ _ _ _ rfl]; rfl
  have f2 : w1.cell? ⟨w.heap.size, 2, none⟩ = some (.string v) := by rw [← hw1, World.cell?_alloc_at _ _ _ _ rfl]; rfl
  rw [hw1] at HB1
  have HB := Lib.hid HB1
  have HS := Lib.hid hS
  have HC := Lib.hid hC
  have HM := Lib.hid hm
  have HF := Lib.hid (And.intro f0 (And.intro f1 f2))
  clear HB1 hS hC hm
  have hfull : ¬ ((1000 : Int) ≤ (p : Int) + ((0 : Nat) : Int)) := by omega
  all_goals
    go_enter Tryz.func55, Tryz.ntmps55
    go_wp2_with (go_at_call 97; ((with_reducible refine (HS.out _ HB.out).mono ?_); rintro x w5 ⟨rfl, hb⟩; have M5 := Lib.hid hb; obtain ⟨g0, g1, g2⟩ := HF.out; have t0 := cellO hb g0; have t1 := cellO hb g1; have t2 := cellO hb g2; clear hb g0 g1 g2))
  · clear hw1 f0 f1 f2
    have i1 : (0 : Int) ≤ (p : Int) := by omega
    have i2 : (p : Int) ≤ ((p + 1 : Nat) : Int) := by omega
    have i3 : ¬ p + 1 = 0 := by omega
    have i4 : (p : Int) ≤ (p : Int) + 1 := by omega
    have P0 : PlS w.heap.size n v d w5 w5 := ⟨t0, t1, t2, Below.refl _ _⟩
    have HW := Lib.hid (btO HB.out M5.out)
    clear HF HS HB M5
    go_region_held3 (fun w' => PlS w.heap.size n v d w5 w' ∧ w'.cell? ⟨w.heap.size, 0, none⟩ = some (.string n) ∧ w'.cell? ⟨w.heap.size, 1, none⟩ = some (.int .i64 d) ∧ w'.cell? ⟨w.heap.size, 2, none⟩ = some (.string v))
      (((try go_split_ands); refine PlS.all ?_; first
        | assumption | exact P0.drew | exact (P0.alloc _).drew | exact ((P0.alloc _).alloc _).drew | exact PlS.alloc (by assumption) _ | exact PlS.drew (by assumption)))
      (first
        | (go_split_ands; go_at_call 98; refine (HC.out _ HW.out).mono ?_; rintro e w6 ⟨u, rfl, hown, hb6⟩; have P6 : PlS w.heap.size n v d w5 w6 := P0.to hb6; have O6 := Lib.hid hown; have M6 := Lib.hid hb6; clear hown hb6))
    all_goals
      go_wp2_with (fail)
      go_ret2
      exact .inl ⟨by have := HM.out; omega, plc_own O6.out M6.out HW.out⟩
theorem placedF_any (A : Option Addr) (c : Nat) (fs : List Fx) (w : World) (hA : RowsR w A 3 fxC fs) (hc : CapR A fs.length c) (hl : fs.length ≤ 1000) (hI : Inc Fx.key fs) :
    Calls Tryz.prog 55 #[.slice A fs.length c, .agg #[.string n, .int .i64 d, .string v], .func (.func 56) #[] #[]] w fun e w' =>
      ((insL Fx.key (n, d, v) fs).length ≤ 1000 ∧ PlcR 44 3 (rowsV fxC (insL Fx.key (n, d, v) fs)) (insL Fx.key (n, d, v) fs).length w e w') ∨ (1000 < (insL Fx.key (n, d, v) fs).length ∧ e = .returned (.tuple #[.slice none 0 0, .int .i64 22]) ∧ Below w.heap.size w w') := by
  have hpl := posL_le (key := Fx.key) (x := (n, d, v)) fs
  have hS := fun W (hW : Below w.heap.size w W) => searchF_any n v d A c fs W (hA.below hW) hl hI
  have heq : eqAt Fx.key (n, d, v) fs (posL Fx.key (n, d, v) fs) = true → posL Fx.key (n, d, v) fs < fs.length := fun h => eqAt_lt h
  have hlen := insL_len (key := Fx.key) (x := (n, d, v)) fs
  have hL : insL Fx.key (n, d, v) fs = fs.take (posL Fx.key (n, d, v) fs) ++ [(n, d, v)] ++ fs.drop (if eqAt Fx.key (n, d, v) fs (posL Fx.key (n, d, v) fs) then posL Fx.key (n, d, v) fs + 1 else posL Fx.key (n, d, v) fs) := by unfold insL; simp
  generalize insL Fx.key (n, d, v) fs = L at *
  generalize posL Fx.key (n, d, v) fs = p at *
  generalize eqAt Fx.key (n, d, v) fs p = eb at *
  obtain ⟨c1, c2, c3⟩ := hc
  have ht : (fs.take p).length = p := by rw [List.length_take]; omega
  rw [List.length_drop] at hlen
  cases eb
  · simp only [Bool.false_eq_true, if_false] at hL hlen
    by_cases hcp : c = p
    · subst hcp
      have hN : fs.length = c := by omega
      have hd : fs.drop c = [] := List.drop_eq_nil_of_le (by omega)
      have htk : fs.take c = fs := List.take_of_length_le (by omega)
      rw [hd, htk] at hL
      rw [hN] at hS
      have hC := fun W (hW : Below w.heap.size w W) => concat3F W A A c 0 fs [] n v d (hA.below hW) RowsR.nil hl (by simp) c 0 hN rfl L hL.symm _ _ rfl rfl _ rfl
      by_cases h0 : c = 0
      · subst h0
        rw [hN]
        exact placedF_zero n v d A w (by omega) hS (rowsV fxC L) L.length (by omega) hC
      · cases A with
        | none => exact absurd (c3 rfl) h0
        | some ad =>
          rw [hN]
          exact placedF_end n v d ad c c2 h0 w (by omega) hS (rowsV fxC L) L.length (by omega) hC
    · cases A with
      | none => have := c3 rfl; omega
      | some ad =>
        have hC := fun W (hW : Below w.heap.size w W) => concat3F W (some ad) (some (ad.add (p * 3))) c (c - p) (fs.take p) (fs.drop p) n v d ((hA.below hW).take p) ((hA.below hW).drop p) (by omega) (by rw [List.length_drop]; omega) p (fs.length - p) ht (List.length_drop ..) L hL.symm _ _ rfl rfl _ rfl
        exact placedF_mid n v d ad fs.length c p hpl c1 c2 hcp w hl hS (rowsV fxC L) L.length hlen hC
  · simp only [if_true] at hL hlen
    have hlt := heq rfl
    cases A with
    | none => have := c3 rfl; omega
    | some ad =>
      by_cases hcp : c = p + 1
      · subst hcp
        have hN : fs.length = p + 1 := by omega
        have hd : fs.drop (p + 1) = [] := List.drop_eq_nil_of_le (by omega)
        rw [hd] at hL
        rw [hN] at hS
        have hC := fun W (hW : Below w.heap.size w W) => concat3F W (some ad) (some ad) (p + 1) 0 (fs.take p) [] n v d ((hA.below hW).take p) RowsR.nil (by omega) (by simp) p 0 ht rfl L hL.symm _ _ rfl rfl _ rfl
        rw [hN]
        exact placedF_last n v d ad p c2 w (by omega) hS (rowsV fxC L) L.length (by omega) hC
      · have hC := fun W (hW : Below w.heap.size w W) => concat3F W (some ad) (some (ad.add ((p + 1) * 3))) c (c - (p + 1)) (fs.take p) (fs.drop (p + 1)) n v d ((hA.below hW).take p) ((hA.below hW).drop (p + 1)) (by omega) (by rw [List.length_drop]; omega) p (fs.length - (p + 1)) ht (List.length_drop ..) L hL.symm _ _ rfl rfl _ rfl
        exact placedF_eq n v d ad fs.length c p hlt c1 c2 (by omega) hcp (by omega) w hl hS (rowsV fxC L) L.length hlen hC
end
end Go.Proofs.YtbfimfjhdbpenaaGreatDoor
/- Layer 8: placed over choices. -/
namespace Go.Proofs.YtbfimfjhdbpenaaGreatDoor
open Go Go.RowKit Go.BigFrame
theorem concat3C (W : World) (A1 A3 : Option Addr) (c1 c3 : Nat) (xs zs : List Cx) (pp n : ByteArray) (d : Int) (ff : Bool) (h1 : RowsR W A1 4 cxC xs) (h3 : RowsR W A3 4 cxC zs) (l1 : xs.length ≤ 1000) (l3 : zs.length ≤ 1000) (n1 n3 : Nat) (e1 : xs.length = n1) (e3 : zs.length = n3) (L : List Cx) (hL : xs ++ [(pp, n, d, ff)] ++ zs = L) (X Y : Obj) (hX : X = .cells #[.string pp, .string n, .int .i64 d, .bool ff] 47) (hY : Y = .cells #[.slice A1 n1 c1, .slice (some ⟨W.heap.size, 0, none⟩) 1 1, .slice A3 n3 c3] 36) (D : Nat) (hD : D = W.heap.size + 1) :
    Calls Tryz.prog 103 #[.slice (some ⟨D, 0, none⟩) 3 3] ((W.alloc X).alloc Y).drew (OwnR 47 4 (rowsV cxC L) L.length W) := by
  subst e1 e3 hX hY hL
  obtain rfl : D = (W.alloc (.cells #[.string pp, .string n, .int .i64 d, .bool ff] 47)).heap.size := by rw [hD, World.size_alloc]
  clear hD
  have b1 := belO W (.cells #[.string pp, .string n, .int .i64 d, .bool ff] 47)
  have hr := heap_alloc_new W (.cells #[.string pp, .string n, .int .i64 d, .bool ff] 47)
  generalize W.alloc (.cells #[.string pp, .string n, .int .i64 d, .bool ff] 47) = w1 at *
  have b2 := belO w1 (.cells #[.slice A1 xs.length c1, .slice (some ⟨W.heap.size, 0, none⟩) 1 1, .slice A3 zs.length c3] 36)
  have hr2 := heap_alloc_new w1 (.cells #[.slice A1 xs.length c1, .slice (some ⟨W.heap.size, 0, none⟩) 1 1, .slice A3 zs.length c3] 36)
  generalize w1.alloc (.cells #[.slice A1 xs.length c1, .slice (some ⟨W.heap.size, 0, none⟩) 1 1, .slice A3 zs.length c3] 36) = w2 at *
  have b12 : Below W.heap.size W w2.drew := (btO b1 b2).drew
  replace hr2 : w2.drew.heap[w1.heap.size]? = _ := hr2
  replace b2 : Below w1.heap.size w1 w2.drew := b2.drew
  generalize w2.drew = w2 at *
  have hm : RowsR w2 (some ⟨W.heap.size, 0, none⟩) 4 cxC [(pp, n, d, ff)] := by
    intro j hj
    obtain rfl : j = 0 := by simpa using hj
    have hrw := (b2.block _ (lt_of_block hr)).trans hr
    refine ⟨W.heap.size, 0, rfl, lt_of_block hrw, fun i u hu => ?_⟩
    simp only [Nat.zero_mul, Nat.zero_add]
    exact row_cell hrw (by simpa [cxC] using hu)
  refine (concat_anyC w1.heap.size A1 (some ⟨W.heap.size, 0, none⟩) A3 c1 1 c3 xs [(pp, n, d, ff)] zs w2 hr2 (h1.below b12) hm (h3.below b12) l1 (by simp) l3).mono ?_
  rintro e w' ⟨u, rfl, ho, hb⟩
  exact ⟨u, rfl, own_lowO ho b12.size, btO b12 hb⟩
structure PlSC (q : Nat) (pp n : ByteArray) (d : Int) (ff : Bool) (w5 w' : World) : Prop where
  c0 : w'.cell? ⟨q, 0, none⟩ = some (.string pp)
  c1 : w'.cell? ⟨q, 1, none⟩ = some (.string n)
  c2 : w'.cell? ⟨q, 2, none⟩ = some (.int .i64 d)
  c3 : w'.cell? ⟨q, 3, none⟩ = some (.bool ff)
  bel : Below w5.heap.size w5 w'
theorem PlSC.all {q : Nat} {pp n : ByteArray} {d : Int} {ff : Bool} {w5 w' : World} (h : PlSC q pp n d ff w5 w') : PlSC q pp n d ff w5 w' ∧ w'.cell? ⟨q, 0, none⟩ = some (.string pp) ∧ w'.cell? ⟨q, 1, none⟩ = some (.string n) ∧ w'.cell? ⟨q, 2, none⟩ = some (.int .i64 d) ∧ w'.cell? ⟨q, 3, none⟩ = some (.bool ff) := ⟨h, h.c0, h.c1, h.c2, h.c3⟩
theorem PlSC.to {q : Nat} {pp n : ByteArray} {d : Int} {ff : Bool} {w5 w' w'' : World} (h : PlSC q pp n d ff w5 w') (hb : Below w'.heap.size w' w'') : PlSC q pp n d ff w5 w'' := ⟨cellO hb h.c0, cellO hb h.c1, cellO hb h.c2, cellO hb h.c3, btO h.bel hb⟩
theorem PlSC.drew {q : Nat} {pp n : ByteArray} {d : Int} {ff : Bool} {w5 w' : World} (h : PlSC q pp n d ff w5 w') : PlSC q pp n d ff w5 w'.drew := h.to (Below.refl _ _).drew
theorem PlSC.alloc {q : Nat} {pp n : ByteArray} {d : Int} {ff : Bool} {w5 w' : World} (h : PlSC q pp n d ff w5 w') (o : Obj) : PlSC q pp n d ff w5 (w'.alloc o) := h.to (belO _ _)
section
variable (pp n : ByteArray) (d : Int) (ff : Bool)
set_option maxRecDepth 100000 in
set_option maxHeartbeats 6400000 in
theorem placedC_mid (ad : Addr) (N c p : Nat) (hp : p ≤ N) (hNc : N ≤ c) (hcm : c ≤ maxLen) (hcp : ¬ c = p) (w : World) (hl : N ≤ 1000)
    (hS : ∀ W, Below w.heap.size w W → Calls Tryz.prog 102 #[.slice (some ad) N c, .agg #[.string pp, .string n, .int .i64 d, .bool ff], .func (.func 59) #[] #[]] W (SrcR p false W))
    (Lr : List Value) (m : Nat) (hm : m = p + 1 + (N - p)) (hC : ∀ W, Below w.heap.size w W → Calls Tryz.prog 103 #[.slice (some ⟨W.heap.size + 1, 0, none⟩) 3 3] ((W.alloc (.cells #[.string pp, .string n, .int .i64 d, .bool ff] 47)).alloc (.cells #[.slice (some ad) p c, .slice (some ⟨W.heap.size, 0, none⟩) 1 1, .slice (some (ad.add (p * 4))) (N - p) (c - p)] 36)).drew (OwnR 47 4 Lr m W)) :
    Calls Tryz.prog 58 #[.slice (some ad) N c, .agg #[.string pp, .string n, .int .i64 d, .bool ff], .func (.func 59) #[] #[]] w fun e w' =>
      (m ≤ 1000 ∧ PlcR 47 4 Lr m w e w') ∨ (1000 < m ∧ e = .returned (.tuple #[.slice none 0 0, .int .i64 22]) ∧ Below w.heap.size w w') := by
  have HB1 := belO w (.cells #[.string pp, .string n, .int .i64 d, .bool ff] 47)
  obtain ⟨w1, hw1⟩ : ∃ w1, w.alloc (.cells #[.string pp, .string n, .int .i64 d, .bool ff] 47) = w1 := ⟨_, rfl⟩
  have f0 : w1.cell? ⟨w.heap.size, 0, none⟩ = some (.string pp) := by rw [← hw1, World.cell?_alloc_at _ _ _ _ rfl]; rfl
  have f1 : w1.cell? ⟨w.heap.size, 1, none⟩ = some (.string n) := by rw [← hw1, World.cell?_alloc_at _ _ _ _ rfl]; rfl
  have f2 : w1.cell? ⟨w.heap.size, 2, none⟩ = some (.int .i64 d) := by rw [← hw1, World.cell?_alloc_at _ _ _ _ rfl]; rfl
  have f3 : w1.cell? ⟨w.heap.size, 3, none⟩ = some (.bool ff) := by rw [← hw1, World.cell?_alloc_at _ _ _ _ rfl]; rfl
  rw [hw1] at HB1
  have HB := Lib.hid HB1
  have HS := Lib.hid hS
  have HC := Lib.hid hC
  have HM := Lib.hid hm
  have HF := Lib.hid (And.intro f0 (And.intro f1 (And.intro f2 f3)))
  clear HB1 hS hC hm
  by_cases hfull : (1000 : Int) ≤ (p : Int) + ((N - p : Nat) : Int)
  all_goals
    go_enter Tryz.func58, Tryz.ntmps58
    go_wp2_with (go_at_call 102; ((with_reducible refine (HS.out _ HB.out).mono ?_); rintro x w5 ⟨rfl, hb⟩; have M5 := Lib.hid hb; obtain ⟨g0, g1, g2, g3⟩ := HF.out; have t0 := cellO hb g0; have t1 := cellO hb g1; have t2 := cellO hb g2; have t3 := cellO hb g3; clear hb g0 g1 g2 g3))
  · go_ret2
    exact .inr ⟨by have := HM.out; omega, rfl, btO HB.out M5.out⟩
  · clear hw1 f0 f1 f2 f3
    have i1 : (0 : Int) ≤ (p : Int) := by omega
    have i2 : (p : Int) ≤ (c : Int) := by omega
    have i3 : ¬ c = 0 := by omega
    have P0 : PlSC w.heap.size pp n d ff w5 w5 := ⟨t0, t1, t2, t3, Below.refl _ _⟩
    have HW := Lib.hid (btO HB.out M5.out)
    clear HF HS HB M5
    go_region_held3 (fun w' => PlSC w.heap.size pp n d ff w5 w' ∧ w'.cell? ⟨w.heap.size, 0, none⟩ = some (.string pp) ∧ w'.cell? ⟨w.heap.size, 1, none⟩ = some (.string n) ∧ w'.cell? ⟨w.heap.size, 2, none⟩ = some (.int .i64 d) ∧ w'.cell? ⟨w.heap.size, 3, none⟩ = some (.bool ff))
      (((try go_split_ands); refine PlSC.all ?_; first
        | assumption | exact P0.drew | exact (P0.alloc _).drew | exact ((P0.alloc _).alloc _).drew | exact PlSC.alloc (by assumption) _ | exact PlSC.drew (by assumption)))
      (first
        | (go_split_ands; go_at_call 103; refine (HC.out _ HW.out).mono ?_; rintro e w6 ⟨u, rfl, hown, hb6⟩; have P6 : PlSC w.heap.size pp n d ff w5 w6 := P0.to hb6; have O6 := Lib.hid hown; have M6 := Lib.hid hb6; clear hown hb6))
    all_goals
      go_wp2_with (fail)
      go_ret2
      exact .inl ⟨by have := HM.out; omega, plc_own O6.out M6.out HW.out⟩
set_option maxRecDepth 100000 in
set_option maxHeartbeats 6400000 in
theorem placedC_end (ad : Addr) (p : Nat) (hpm : p ≤ maxLen) (h0 : ¬ p = 0) (w : World) (hl : p ≤ 1000)
    (hS : ∀ W, Below w.heap.size w W → Calls Tryz.prog 102 #[.slice (some ad) p p, .agg #[.string pp, .string n, .int .i64 d, .bool ff], .func (.func 59) #[] #[]] W (SrcR p false W))
    (Lr : List Value) (m : Nat) (hm : m = p + 1 + (0)) (hC : ∀ W, Below w.heap.size w W → Calls Tryz.prog 103 #[.slice (some ⟨W.heap.size + 1, 0, none⟩) 3 3] ((W.alloc (.cells #[.string pp, .string n, .int .i64 d, .bool ff] 47)).alloc (.cells #[.slice (some ad) p p, .slice (some ⟨W.heap.size, 0, none⟩) 1 1, .slice (some ad) (0) (0)] 36)).drew (OwnR 47 4 Lr m W)) :
    Calls Tryz.prog 58 #[.slice (some ad) p p, .agg #[.string pp, .string n, .int .i64 d, .bool ff], .func (.func 59) #[] #[]] w fun e w' =>
      (m ≤ 1000 ∧ PlcR 47 4 Lr m w e w') ∨ (1000 < m ∧ e = .returned (.tuple #[.slice none 0 0, .int .i64 22]) ∧ Below w.heap.size w w') := by
  have HB1 := belO w (.cells #[.string pp, .string n, .int .i64 d, .bool ff] 47)
  obtain ⟨w1, hw1⟩ : ∃ w1, w.alloc (.cells #[.string pp, .string n, .int .i64 d, .bool ff] 47) = w1 := ⟨_, rfl⟩
  have f0 : w1.cell? ⟨w.heap.size, 0, none⟩ = some (.string pp) := by rw [← hw1, World.cell?_alloc_at _ _ _ _ rfl]; rfl
  have f1 : w1.cell? ⟨w.heap.size, 1, none⟩ = some (.string n) := by rw [← hw1, World.cell?_alloc_at _ _ _ _ rfl]; rfl
  have f2 : w1.cell? ⟨w.heap.size, 2, none⟩ = some (.int .i64 d) := by rw [← hw1, World.cell?_alloc_at _ _ _ _ rfl]; rfl
  have f3 : w1.cell? ⟨w.heap.size, 3, none⟩ = some (.bool ff) := by rw [← hw1, World.cell?_alloc_at _ _ _ _ rfl]; rfl
  rw [hw1] at HB1
  have HB := Lib.hid HB1
  have HS := Lib.hid hS
  have HC := Lib.hid hC
  have HM := Lib.hid hm
  have HF := Lib.hid (And.intro f0 (And.intro f1 (And.intro f2 f3)))
  clear HB1 hS hC hm
  by_cases hfull : (1000 : Int) ≤ (p : Int) + ((0 : Nat) : Int)
  all_goals
    go_enter Tryz.func58, Tryz.ntmps58
    go_wp2_with (go_at_call 102; ((with_reducible refine (HS.out _ HB.out).mono ?_); rintro x w5 ⟨rfl, hb⟩; have M5 := Lib.hid hb; obtain ⟨g0, g1, g2, g3⟩ := HF.out; have t0 := cellO hb g0; have t1 := cellO hb g1; have t2 := cellO hb g2; have t3 := cellO hb g3; clear hb g0 g1 g2 g3))
  · go_ret2
    exact .inr ⟨by have := HM.out; omega, rfl, btO HB.out M5.out⟩
  · clear hw1 f0 f1 f2 f3
    have i1 : (0 : Int) ≤ (p : Int) := by omega
    have i2 : (p : Int) ≤ (p : Int) := by omega
    have i3 : ¬ p = 0 := h0
    have P0 : PlSC w.heap.size pp n d ff w5 w5 := ⟨t0, t1, t2, t3, Below.refl _ _⟩
    have HW := Lib.hid (btO HB.out M5.out)
    clear HF HS HB M5
    go_region_held3 (fun w' => PlSC w.heap.size pp n d ff w5 w' ∧ w'.cell? ⟨w.heap.size, 0, none⟩ = some (.string pp) ∧ w'.cell? ⟨w.heap.size, 1, none⟩ = some (.string n) ∧ w'.cell? ⟨w.heap.size, 2, none⟩ = some (.int .i64 d) ∧ w'.cell? ⟨w.heap.size, 3, none⟩ = some (.bool ff))
      (((try go_split_ands); refine PlSC.all ?_; first
        | assumption | exact P0.drew | exact (P0.alloc _).drew | exact ((P0.alloc _).alloc _).drew | exact PlSC.alloc (by assumption) _ | exact PlSC.drew (by assumption)))
      (first
        | (go_split_ands; go_at_call 103; refine (HC.out _ HW.out).mono ?_; rintro e w6 ⟨u, rfl, hown, hb6⟩; have P6 : PlSC w.heap.size pp n d ff w5 w6 := P0.to hb6; have O6 := Lib.hid hown; have M6 := Lib.hid hb6; clear hown hb6))
    all_goals
      go_wp2_with (fail)
      go_ret2
      exact .inl ⟨by have := HM.out; omega, plc_own O6.out M6.out HW.out⟩
set_option maxRecDepth 100000 in
set_option maxHeartbeats 6400000 in
theorem placedC_zero (A : Option Addr) (w : World) (hl : 0 ≤ 1000)
    (hS : ∀ W, Below w.heap.size w W → Calls Tryz.prog 102 #[.slice A 0 0, .agg #[.string pp, .string n, .int .i64 d, .bool ff], .func (.func 59) #[] #[]] W (SrcR 0 false W))
    (Lr : List Value) (m : Nat) (hm : m = 0 + 1 + (0)) (hC : ∀ W, Below w.heap.size w W → Calls Tryz.prog 103 #[.slice (some ⟨W.heap.size + 1, 0, none⟩) 3 3] ((W.alloc (.cells #[.string pp, .string n, .int .i64 d, .bool ff] 47)).alloc (.cells #[.slice A 0 0, .slice (some ⟨W.heap.size, 0, none⟩) 1 1, .slice A (0) (0)] 36)).drew (OwnR 47 4 Lr m W)) :
    Calls Tryz.prog 58 #[.slice A 0 0, .agg #[.string pp, .string n, .int .i64 d, .bool ff], .func (.func 59) #[] #[]] w fun e w' =>
      (m ≤ 1000 ∧ PlcR 47 4 Lr m w e w') ∨ (1000 < m ∧ e = .returned (.tuple #[.slice none 0 0, .int .i64 22]) ∧ Below w.heap.size w w') := by
  have HB1 := belO w (.cells #[.string pp, .string n, .int .i64 d, .bool ff] 47)
  obtain ⟨w1, hw1⟩ : ∃ w1, w.alloc (.cells #[.string pp, .string n, .int .i64 d, .bool ff] 47) = w1 := ⟨_, rfl⟩
  have f0 : w1.cell? ⟨w.heap.size, 0, none⟩ = some (.string pp) := by rw [← hw1, World.cell?_alloc_at _ _ _ _ rfl]; rfl
  have f1 : w1.cell? ⟨w.heap.size, 1, none⟩ = some (.string n) := by rw [← hw1, World.cell?_alloc_at _ _ _ _ rfl]; rfl
  have f2 : w1.cell? ⟨w.heap.size, 2, none⟩ = some (.int .i64 d) := by rw [← hw1, World.cell?_alloc_at _ _ _ _ rfl]; rfl
  have f3 : w1.cell? ⟨w.heap.size, 3, none⟩ = some (.bool ff) := by rw [← hw1, World.cell?_alloc_at _ _ _ _ rfl]; rfl
  rw [hw1] at HB1
  have HB := Lib.hid HB1
  have HS := Lib.hid hS
  have HC := Lib.hid hC
  have HM := Lib.hid hm
  have HF := Lib.hid (And.intro f0 (And.intro f1 (And.intro f2 f3)))
  clear HB1 hS hC hm
  have hfull : ¬ ((1000 : Int) ≤ (0 : Int) + ((0 : Nat) : Int)) := by omega
  all_goals
    go_enter Tryz.func58, Tryz.ntmps58
    go_wp2_with (go_at_call 102; ((with_reducible refine (HS.out _ HB.out).mono ?_); rintro x w5 ⟨rfl, hb⟩; have M5 := Lib.hid hb; obtain ⟨g0, g1, g2, g3⟩ := HF.out; have t0 := cellO hb g0; have t1 := cellO hb g1; have t2 := cellO hb g2; have t3 := cellO hb g3; clear hb g0 g1 g2 g3))
  · clear hw1 f0 f1 f2 f3
    have P0 : PlSC w.heap.size pp n d ff w5 w5 := ⟨t0, t1, t2, t3, Below.refl _ _⟩
    have HW := Lib.hid (btO HB.out M5.out)
    clear HF HS HB M5
    go_region_held3 (fun w' => PlSC w.heap.size pp n d ff w5 w' ∧ w'.cell? ⟨w.heap.size, 0, none⟩ = some (.string pp) ∧ w'.cell? ⟨w.heap.size, 1, none⟩ = some (.string n) ∧ w'.cell? ⟨w.heap.size, 2, none⟩ = some (.int .i64 d) ∧ w'.cell? ⟨w.heap.size, 3, none⟩ = some (.bool ff))
      (((try go_split_ands); refine PlSC.all ?_; first
        | assumption | exact P0.drew | exact (P0.alloc _).drew | exact ((P0.alloc _).alloc _).drew | exact PlSC.alloc (by assumption) _ | exact PlSC.drew (by assumption)))
      (first
        | (go_split_ands; go_at_call 103; refine (HC.out _ HW.out).mono ?_; rintro e w6 ⟨u, rfl, hown, hb6⟩; have P6 : PlSC w.heap.size pp n d ff w5 w6 := P0.to hb6; have O6 := Lib.hid hown; have M6 := Lib.hid hb6; clear hown hb6))
    all_goals
      go_wp2_with (fail)
      go_ret2
      exact .inl ⟨by have := HM.out; omega, plc_own O6.out M6.out HW.out⟩
set_option maxRecDepth 100000 in
set_option maxHeartbeats 6400000 in
theorem placedC_eq (ad : Addr) (N c p : Nat) (hp : p < N) (hNc : N ≤ c) (hcm : c ≤ maxLen) (hcp : ¬ c = p) (hcq : ¬ c = p + 1) (hp1 : (p : Int) + 1 ≤ (N : Int)) (w : World) (hl : N ≤ 1000)
    (hS : ∀ W, Below w.heap.size w W → Calls Tryz.prog 102 #[.slice (some ad) N c, .agg #[.string pp, .string n, .int .i64 d, .bool ff], .func (.func 59) #[] #[]] W (SrcR p true W))
    (Lr : List Value) (m : Nat) (hm : m = p + 1 + (N - (p + 1))) (hC : ∀ W, Below w.heap.size w W → Calls Tryz.prog 103 #[.slice (some ⟨W.heap.size + 1, 0, none⟩) 3 3] ((W.alloc (.cells #[.string pp, .string n, .int .i64 d, .bool ff] 47)).alloc (.cells #[.slice (some ad) p c, .slice (some ⟨W.heap.size, 0, none⟩) 1 1, .slice (some (ad.add ((p + 1) * 4))) (N - (p + 1)) (c - (p + 1))] 36)).drew (OwnR 47 4 Lr m W)) :
    Calls Tryz.prog 58 #[.slice (some ad) N c, .agg #[.string pp, .string n, .int .i64 d, .bool ff], .func (.func 59) #[] #[]] w fun e w' =>
      (m ≤ 1000 ∧ PlcR 47 4 Lr m w e w') ∨ (1000 < m ∧ e = .returned (.tuple #[.slice none 0 0, .int .i64 22]) ∧ Below w.heap.size w w') := by
  have HB1 := belO w (.cells #[.string pp, .string n, .int .i64 d, .bool ff] 47)
  obtain ⟨w1, hw1⟩ : ∃ w1, w.alloc (.cells #[.string pp, .string n, .int .i64 d, .bool ff] 47) = w1 := ⟨_, rfl⟩
  have f0 : w1.cell? ⟨w.heap.size, 0, none⟩ = some (.string pp) := by rw [← hw1, World.cell?_alloc_at _ _ _ _ rfl]; rfl
  have f1 : w1.cell? ⟨w.heap.size, 1, none⟩ = some (.string n) := by rw [← hw1, World.cell?_alloc_at _ _ _ _ rfl]; rfl
  have f2 : w1.cell? ⟨w.heap.size, 2, none⟩ = some (.int .i64 d) := by rw [← hw1, World.cell?_alloc_at _ _ _ _ rfl]; rfl
  have f3 : w1.cell? ⟨w.heap.size, 3, none⟩ = some (.bool ff) := by rw [← hw1, World.cell?_alloc_at _ _ _ _ rfl]; rfl
  rw [hw1] at HB1
  have HB := Lib.hid HB1
  have HS := Lib.hid hS
  have HC := Lib.hid hC
  have HM := Lib.hid hm
  have HF := Lib.hid (And.intro f0 (And.intro f1 (And.intro f2 f3)))
  clear HB1 hS hC hm
  by_cases hfull : (1000 : Int) ≤ (p : Int) + ((N - (p + 1) : Nat) : Int)
  all_goals
    go_enter Tryz.func58, Tryz.ntmps58
    go_wp2_with (go_at_call 102; ((with_reducible refine (HS.out _ HB.out).mono ?_); rintro x w5 ⟨rfl, hb⟩; have M5 := Lib.hid hb; obtain ⟨g0, g1, g2, g3⟩ := HF.out; have t0 := cellO hb g0; have t1 := cellO hb g1; have t2 := cellO hb g2; have t3 := cellO hb g3; clear hb g0 g1 g2 g3))
  · go_ret2
    exact .inr ⟨by have := HM.out; omega, rfl, btO HB.out M5.out⟩
  · clear hw1 f0 f1 f2 f3
    have i1 : (0 : Int) ≤ (p : Int) := by omega
    have i2 : (p : Int) ≤ (c : Int) := by omega
    have i3 : ¬ c = 0 := by omega
    have P0 : PlSC w.heap.size pp n d ff w5 w5 := ⟨t0, t1, t2, t3, Below.refl _ _⟩
    have HW := Lib.hid (btO HB.out M5.out)
    clear HF HS HB M5
    go_region_held3 (fun w' => PlSC w.heap.size pp n d ff w5 w' ∧ w'.cell? ⟨w.heap.size, 0, none⟩ = some (.string pp) ∧ w'.cell? ⟨w.heap.size, 1, none⟩ = some (.string n) ∧ w'.cell? ⟨w.heap.size, 2, none⟩ = some (.int .i64 d) ∧ w'.cell? ⟨w.heap.size, 3, none⟩ = some (.bool ff))
      (((try go_split_ands); refine PlSC.all ?_; first
        | assumption | exact P0.drew | exact (P0.alloc _).drew | exact ((P0.alloc _).alloc _).drew | exact PlSC.alloc (by assumption) _ | exact PlSC.drew (by assumption)))
      (first
        | (go_split_ands; go_at_call 103; refine (HC.out _ HW.out).mono ?_; rintro e w6 ⟨u, rfl, hown, hb6⟩; have P6 : PlSC w.heap.size pp n d ff w5 w6 := P0.to hb6; have O6 := Lib.hid hown; have M6 := Lib.hid hb6; clear hown hb6))
    all_goals
      go_wp2_with (fail)
      go_ret2
      exact .inl ⟨by have := HM.out; omega, plc_own O6.out M6.out HW.out⟩
set_option maxRecDepth 100000 in
set_option maxHeartbeats 6400000 in
theorem placedC_last (ad : Addr) (p : Nat) (hcm : p + 1 ≤ maxLen) (w : World) (hl : (p + 1) ≤ 1000)
    (hS : ∀ W, Below w.heap.size w W → Calls Tryz.prog 102 #[.slice (some ad) (p + 1) (p + 1), .agg #[.string pp, .string n, .int .i64 d, .bool ff], .func (.func 59) #[] #[]] W (SrcR p true W))
    (Lr : List Value) (m : Nat) (hm : m = p + 1 + (0)) (hC : ∀ W, Below w.heap.size w W → Calls Tryz.prog 103 #[.slice (some ⟨W.heap.size + 1, 0, none⟩) 3 3] ((W.alloc (.cells #[.string pp, .string n, .int .i64 d, .bool ff] 47)).alloc (.cells #[.slice (some ad) p (p + 1), .slice (some ⟨W.heap.size, 0, none⟩) 1 1, .slice (some ad) (0) (0)] 36)).drew (OwnR 47 4 Lr m W)) :
    Calls Tryz.prog 58 #[.slice (some ad) (p + 1) (p + 1), .agg #[.string pp, .string n, .int .i64 d, .bool ff], .func (.func 59) #[] #[]] w fun e w' =>
      (m ≤ 1000 ∧ PlcR 47 4 Lr m w e w') ∨ (1000 < m ∧ e = .returned (.tuple #[.slice none 0 0, .int .i64 22]) ∧ Below w.heap.size w w') := by
  have HB1 := belO w (.cells #[.string pp, .string n, .int .i64 d, .bool ff] 47)
  obtain ⟨w1, hw1⟩ : ∃ w1, w.alloc (.cells #[.string pp, .string n, .int .i64 d, .bool ff] 47) = w1 := ⟨_, rfl⟩
  have f0 : w1.cell? ⟨w.heap.size, 0, none⟩ = some (.string pp) := by rw [← hw1, World.cell?_alloc_at _ _ _ _ rfl]; rfl
  have f1 : w1.cell? ⟨w.heap.size, 1, none⟩ = some (.string n) := by rw [← hw1, World.cell?_alloc_at _ _ _ _ rfl]; rfl
  have f2 : w1.cell? ⟨w.heap.size, 2, none⟩ = some (.int .i64 d) := by rw [← hw1, World.cell?_alloc_at _ _ _ _ rfl]; rfl
  have f3 : w1.cell? ⟨w.heap.size, 3, none⟩ = some (.bool ff) := by rw [← hw1, World.cell?_alloc_at _ _ _ _ rfl]; rfl
  rw [hw1] at HB1
  have HB := Lib.hid HB1
  have HS := Lib.hid hS
  have HC := Lib.hid hC
  have HM := Lib.hid hm
  have HF := Lib.hid (And.intro f0 (And.intro f1 (And.intro f2 f3)))
  clear HB1 hS hC hm
  have hfull : ¬ ((1000 : Int) ≤ (p : Int) + ((0 : Nat) : Int)) := by omega
  all_goals
    go_enter Tryz.func58, Tryz.ntmps58
    go_wp2_with (go_at_call 102; ((with_reducible refine (HS.out _ HB.out).mono ?_); rintro x w5 ⟨rfl, hb⟩; have M5 := Lib.hid hb; obtain ⟨g0, g1, g2, g3⟩ := HF.out; have t0 := cellO hb g0; have t1 := cellO hb g1; have t2 := cellO hb g2; have t3 := cellO hb g3; clear hb g0 g1 g2 g3))
  · clear hw1 f0 f1 f2 f3
    have i1 : (0 : Int) ≤ (p : Int) := by omega
    have i2 : (p : Int) ≤ ((p + 1 : Nat) : Int) := by omega
    have i3 : ¬ p + 1 = 0 := by omega
    have i4 : (p : Int) ≤ (p : Int) + 1 := by omega
    have P0 : PlSC w.heap.size pp n d ff w5 w5 := ⟨t0, t1, t2, t3, Below.refl _ _⟩
    have HW := Lib.hid (btO HB.out M5.out)
    clear HF HS HB M5
    go_region_held3 (fun w' => PlSC w.heap.size pp n d ff w5 w' ∧ w'.cell? ⟨w.heap.size, 0, none⟩ = some (.string pp) ∧ w'.cell? ⟨w.heap.size, 1, none⟩ = some (.string n) ∧ w'.cell? ⟨w.heap.size, 2, none⟩ = some (.int .i64 d) ∧ w'.cell? ⟨w.heap.size, 3, none⟩ = some (.bool ff))
      (((try go_split_ands); refine PlSC.all ?_; first
        | assumption | exact P0.drew | exact (P0.alloc _).drew | exact ((P0.alloc _).alloc _).drew | exact PlSC.alloc (by assumption) _ | exact PlSC.drew (by assumption)))
      (first
        | (go_split_ands; go_at_call 103; refine (HC.out _ HW.out).mono ?_; rintro e w6 ⟨u, rfl, hown, hb6⟩; have P6 : PlSC w.heap.size pp n d ff w5 w6 := P0.to hb6; have O6 := Lib.hid hown; have M6 := Lib.hid hb6; clear hown hb6))
    all_goals
      go_wp2_with (fail)
      go_ret2
      exact .inl ⟨by have := HM.out; omega, plc_own O6.out M6.out HW.out⟩
theorem placedC_any (A : Option Addr) (c : Nat) (cs : List Cx) (w : World) (hA : RowsR w A 4 cxC cs) (hc : CapR A cs.length c) (hl : cs.length ≤ 1000) (hI : Inc Cx.key cs) :
    Calls Tryz.prog 58 #[.slice A cs.length c, .agg #[.string pp, .string n, .int .i64 d, .bool ff], .func (.func 59) #[] #[]] w fun e w' =>
      ((insL Cx.key (pp, n, d, ff) cs).length ≤ 1000 ∧ PlcR 47 4 (rowsV cxC (insL Cx.key (pp, n, d, ff) cs)) (insL Cx.key (pp, n, d, ff) cs).length w e w') ∨ (1000 < (insL Cx.key (pp, n, d, ff) cs).length ∧ e = .returned (.tuple #[.slice none 0 0, .int .i64 22]) ∧ Below w.heap.size w w') := by
  have hpl := posL_le (key := Cx.key) (x := (pp, n, d, ff)) cs
  have hS := fun W (hW : Below w.heap.size w W) => searchC_any pp n d ff A c cs W (hA.below hW) hl hI
  have heq : eqAt Cx.key (pp, n, d, ff) cs (posL Cx.key (pp, n, d, ff) cs) = true → posL Cx.key (pp, n, d, ff) cs < cs.length := fun h => eqAt_lt h
  have hlen := insL_len (key := Cx.key) (x := (pp, n, d, ff)) cs
  have hL : insL Cx.key (pp, n, d, ff) cs = cs.take (posL Cx.key (pp, n, d, ff) cs) ++ [(pp, n, d, ff)] ++ cs.drop (if eqAt Cx.key (pp, n, d, ff) cs (posL Cx.key (pp, n, d, ff) cs) then posL Cx.key (pp, n, d, ff) cs + 1 else posL Cx.key (pp, n, d, ff) cs) := by unfold insL; simp
  generalize insL Cx.key (pp, n, d, ff) cs = L at *
  generalize posL Cx.key (pp, n, d, ff) cs = p at *
  generalize eqAt Cx.key (pp, n, d, ff) cs p = eb at *
  obtain ⟨c1, c2, c3⟩ := hc
  have ht : (cs.take p).length = p := by rw [List.length_take]; omega
  rw [List.length_drop] at hlen
  cases eb
  · simp only [Bool.false_eq_true, if_false] at hL hlen
    by_cases hcp : c = p
    · subst hcp
      have hN : cs.length = c := by omega
      have hd : cs.drop c = [] := List.drop_eq_nil_of_le (by omega)
      have htk : cs.take c = cs := List.take_of_length_le (by omega)
      rw [hd, htk] at hL
      rw [hN] at hS
      have hC := fun W (hW : Below w.heap.size w W) => concat3C W A A c 0 cs [] pp n d ff (hA.below hW) RowsR.nil hl (by simp) c 0 hN rfl L hL.symm _ _ rfl rfl _ rfl
      by_cases h0 : c = 0
      · subst h0
        rw [hN]
        exact placedC_zero pp n d ff A w (by omega) hS (rowsV cxC L) L.length (by omega) hC
      · cases A with
        | none => exact absurd (c3 rfl) h0
        | some ad =>
          rw [hN]
          exact placedC_end pp n d ff ad c c2 h0 w (by omega) hS (rowsV cxC L) L.length (by omega) hC
    · cases A with
      | none => have := c3 rfl; omega
      | some ad =>
        have hC := fun W (hW : Below w.heap.size w W) => concat3C W (some ad) (some (ad.add (p * 4))) c (c - p) (cs.take p) (cs.drop p) pp n d ff ((hA.below hW).take p) ((hA.below hW).drop p) (by omega) (by rw [List.length_drop]; omega) p (cs.length - p) ht (List.length_drop ..) L hL.symm _ _ rfl rfl _ rfl
        exact placedC_mid pp n d ff ad cs.length c p hpl c1 c2 hcp w hl hS (rowsV cxC L) L.length hlen hC
  · simp only [if_true] at hL hlen
    have hlt := heq rfl
    cases A with
    | none => have := c3 rfl; omega
    | some ad =>
      by_cases hcp : c = p + 1
      · subst hcp
        have hN : cs.length = p + 1 := by omega
        have hd : cs.drop (p + 1) = [] := List.drop_eq_nil_of_le (by omega)
        rw [hd] at hL
        rw [hN] at hS
        have hC := fun W (hW : Below w.heap.size w W) => concat3C W (some ad) (some ad) (p + 1) 0 (cs.take p) [] pp n d ff ((hA.below hW).take p) RowsR.nil (by omega) (by simp) p 0 ht rfl L hL.symm _ _ rfl rfl _ rfl
        rw [hN]
        exact placedC_last pp n d ff ad p c2 w (by omega) hS (rowsV cxC L) L.length (by omega) hC
      · have hC := fun W (hW : Below w.heap.size w W) => concat3C W (some ad) (some (ad.add ((p + 1) * 4))) c (c - (p + 1)) (cs.take p) (cs.drop (p + 1)) pp n d ff ((hA.below hW).take p) ((hA.below hW).drop (p + 1)) (by omega) (by rw [List.length_drop]; omega) p (cs.length - (p + 1)) ht (List.length_drop ..) L hL.symm _ _ rfl rfl _ rfl
        exact placedC_eq pp n d ff ad cs.length c p hlt c1 c2 (by omega) hcp (by omega) w hl hS (rowsV cxC L) L.length hlen hC
end
end Go.Proofs.YtbfimfjhdbpenaaGreatDoor
/- Layer 8: the program's Put. -/
namespace Go.Proofs.YtbfimfjhdbpenaaGreatDoor
open Go Go.RowKit Go.BigFrame
def PutO (L : List Fx) (C : List Cx) (e : Int) (w : World) (x : Ending) (w' : World) : Prop := ∃ v1 v2, x = .returned (.tuple #[.agg #[v1, v2], .int .i64 e]) ∧ w'.ownsRow w.heap.size 44 3 v1 L.length (rowsV fxC L) ∧ w'.ownsRow w.heap.size 47 4 v2 C.length (rowsV cxC C) ∧ Below w.heap.size w w'
theorem putO_nil {e : Int} {w w' : World} (h : Below w.heap.size w w') : PutO [] [] e w (.returned (.tuple #[.agg #[.slice none 0 0, .slice none 0 0], .int .i64 e])) w' :=
  ⟨_, _, rfl, World.ownsRow_nil _ _ _ _, World.ownsRow_nil _ _ _ _, h⟩
set_option maxRecDepth 100000 in
set_option maxHeartbeats 6400000 in
theorem pput_env (E : Ev) (n v : ByteArray) (d : Int) (w : World) (ve : Int) (hE : ∀ W, Below w.heap.size w W → Calls Tryz.prog 22 #[E.val] W (IntRO ve W)) (hve : ¬ ve = 0) : Calls Tryz.prog 19 #[E.val, .agg #[.string n, .int .i64 d, .string v]] w (PutO [] [] ve w) := by
  have HE := Lib.hid hE
  have h1 : (ve == 0) = false := by rw [beq_eq_false_iff_ne]; exact hve
  clear hE
  obtain ⟨fA, fs, fc, cA, cs, cc⟩ := E
  have HB1 := belO w (.cells #[.slice fA fs.length fc, .slice cA cs.length cc] 38)
  obtain ⟨w1, hw1⟩ : ∃ w1, w.alloc (.cells #[.slice fA fs.length fc, .slice cA cs.length cc] 38) = w1 := ⟨_, rfl⟩
  have a0 : w1.cell? ⟨w.heap.size, 0, none⟩ = some (.slice fA fs.length fc) := by rw [← hw1, World.cell?_alloc_at _ _ _ _ rfl]; rfl
  have a1 : w1.cell? ⟨w.heap.size, 1, none⟩ = some (.slice cA cs.length cc) := by rw [← hw1, World.cell?_alloc_at _ _ _ _ rfl]; rfl
  have hs1 : w1.heap.size = w.heap.size + 1 := by rw [← hw1, World.size_alloc]
  rw [hw1] at HB1
  have HB2 := belO w1 (.cells #[.string n, .int .i64 d, .string v] 44)
  obtain ⟨w2, hw2⟩ : ∃ w2, w1.alloc (.cells #[.string n, .int .i64 d, .string v] 44) = w2 := ⟨_, rfl⟩
  have b0 : w2.cell? ⟨w1.heap.size, 0, none⟩ = some (.string n) := by rw [← hw2, World.cell?_alloc_at _ _ _ _ rfl]; rfl
  have b1 : w2.cell? ⟨w1.heap.size, 1, none⟩ = some (.int .i64 d) := by rw [← hw2, World.cell?_alloc_at _ _ _ _ rfl]; rfl
  have b2 : w2.cell? ⟨w1.heap.size, 2, none⟩ = some (.string v) := by rw [← hw2, World.cell?_alloc_at _ _ _ _ rfl]; rfl
  have hs2 : w2.heap.size = w1.heap.size + 1 := by rw [← hw2, World.size_alloc]
  rw [hw2] at HB2
  have HB3 := belO w2 (.cells #[.slice none 0 0, .slice none 0 0] 38)
  obtain ⟨w3, hw3⟩ : ∃ w3, w2.alloc (.cells #[.slice none 0 0, .slice none 0 0] 38) = w3 := ⟨_, rfl⟩
  have hrow : w3.heap[w2.heap.size]? = some (.cells #[.slice none 0 0, .slice none 0 0] 38 (0, 0)) := by rw [← hw3]; exact heap_alloc_new w2 _
  have hs3 : w3.heap.size = w2.heap.size + 1 := by rw [← hw3, World.size_alloc]
  rw [hw3] at HB3
  have P3 := Lib.hid (show PuB w.heap.size w1.heap.size w2.heap.size (.slice fA fs.length fc) (.slice cA cs.length cc) (.string n) (.int .i64 d) (.string v) w3 from ⟨cellO (btO HB2 HB3) a0, cellO (btO HB2 HB3) a1, cellO HB3 b0, cellO HB3 b1, cellO HB3 b2, row_cell (j := 0) hrow rfl, row_cell (j := 1) hrow rfl⟩)
  have HB := Lib.hid (btO HB1 (btO HB2 HB3))
  have HR := Lib.hid hrow
  have HSZ := Lib.hid (show w.heap.size < w1.heap.size ∧ w1.heap.size < w2.heap.size ∧ w2.heap.size < w3.heap.size by omega)
  show Calls Tryz.prog 19 #[.agg #[.slice fA fs.length fc, .slice cA cs.length cc], .agg #[.string n, .int .i64 d, .string v]] w _
  clear HB1 HB2 HB3 a0 a1 b0 b1 b2 hrow hs1 hs2 hs3
  obtain ⟨e0, e1, f0, f1, f2, r0, r1⟩ := P3.out
  have t0 := row_frz (j := 0) HR.out
  have t1 := row_frz (j := 1) HR.out
  go_enter Tryz.func19, Tryz.ntmps19
  go_wp2_with (first
    | (go_at_call 22; ((with_reducible refine (HE.out _ HB.out).mono ?_); rintro x w4 ⟨rfl, hb⟩; have M4 := Lib.hid (hb); clear hb e0 e1 f0 f1 f2 r0 r1 t0 t1; obtain ⟨e0, e1, f0, f1, f2, r0, r1⟩ := P3.out.below M4.out; have hr4 := (M4.out.block _ (lt_of_block HR.out)).trans HR.out; have t0 := row_frz (j := 0) hr4; have t1 := row_frz (j := 1) hr4; have R4 := Lib.hid hr4; clear hr4)))
  refine bodyPost_ret (results_row_tmpO rfl _ _ w2.heap.size 38 _ (0, 0) _ (.int .i64 ve) rfl rfl (heap_set2O R4.out _ _) Tryz.underlying38 (by kernel_rfl) (by kernel_rfl)) rfl ?_
  exact putO_nil (((HB.out.trans (M4.out.mono HB.out.size)).setCell (p := ⟨w2.heap.size, 0, none⟩) (by show w.heap.size ≤ w2.heap.size; have := HSZ.out; omega) _).setCell (p := ⟨w2.heap.size, 1, none⟩) (by show w.heap.size ≤ w2.heap.size; have := HSZ.out; omega) _)
set_option maxRecDepth 100000 in
set_option maxHeartbeats 6400000 in
theorem pput_arg (E : Ev) (n v : ByteArray) (d : Int) (w : World) (hE : ∀ W, Below w.heap.size w W → Calls Tryz.prog 22 #[E.val] W (IntRO 0 W)) (hN : ∀ W, Calls Tryz.prog 53 #[.agg #[.string n, .int .i64 d, .string v]] W (BoolRO false W)) : Calls Tryz.prog 19 #[E.val, .agg #[.string n, .int .i64 d, .string v]] w (PutO [] [] 2 w) := by
  have HE := Lib.hid hE
  have HN := Lib.hid hN
  clear hE hN
  obtain ⟨fA, fs, fc, cA, cs, cc⟩ := E
  have HB1 := belO w (.cells #[.slice fA fs.length fc, .slice cA cs.length cc] 38)
  obtain ⟨w1, hw1⟩ : ∃ w1, w.alloc (.cells #[.slice fA fs.length fc, .slice cA cs.length cc] 38) = w1 := ⟨_, rfl⟩
  have a0 : w1.cell? ⟨w.heap.size, 0, none⟩ = some (.slice fA fs.length fc) := by rw [← hw1, World.cell?_alloc_at _ _ _ _ rfl]; rfl
  have a1 : w1.cell? ⟨w.heap.size, 1, none⟩ = some (.slice cA cs.length cc) := by rw [← hw1, World.cell?_alloc_at _ _ _ _ rfl]; rfl
  have hs1 : w1.heap.size = w.heap.size + 1 := by rw [← hw1, World.size_alloc]
  rw [hw1] at HB1
  have HB2 := belO w1 (.cells #[.string n, .int .i64 d, .string v] 44)
  obtain ⟨w2, hw2⟩ : ∃ w2, w1.alloc (.cells #[.string n, .int .i64 d, .string v] 44) = w2 := ⟨_, rfl⟩
  have b0 : w2.cell? ⟨w1.heap.size, 0, none⟩ = some (.string n) := by rw [← hw2, World.cell?_alloc_at _ _ _ _ rfl]; rfl
  have b1 : w2.cell? ⟨w1.heap.size, 1, none⟩ = some (.int .i64 d) := by rw [← hw2, World.cell?_alloc_at _ _ _ _ rfl]; rfl
  have b2 : w2.cell? ⟨w1.heap.size, 2, none⟩ = some (.string v) := by rw [← hw2, World.cell?_alloc_at _ _ _ _ rfl]; rfl
  have hs2 : w2.heap.size = w1.heap.size + 1 := by rw [← hw2, World.size_alloc]
  rw [hw2] at HB2
  have HB3 := belO w2 (.cells #[.slice none 0 0, .slice none 0 0] 38)
  obtain ⟨w3, hw3⟩ : ∃ w3, w2.alloc (.cells #[.slice none 0 0, .slice none 0 0] 38) = w3 := ⟨_, rfl⟩
  have hrow : w3.heap[w2.heap.size]? = some (.cells #[.slice none 0 0, .slice none 0 0] 38 (0, 0)) := by rw [← hw3]; exact heap_alloc_new w2 _
  have hs3 : w3.heap.size = w2.heap.size + 1 := by rw [← hw3, World.size_alloc]
  rw [hw3] at HB3
  have P3 := Lib.hid (show PuB w.heap.size w1.heap.size w2.heap.size (.slice fA fs.length fc) (.slice cA cs.length cc) (.string n) (.int .i64 d) (.string v) w3 from ⟨cellO (btO HB2 HB3) a0, cellO (btO HB2 HB3) a1, cellO HB3 b0, cellO HB3 b1, cellO HB3 b2, row_cell (j := 0) hrow rfl, row_cell (j := 1) hrow rfl⟩)
  have HB := Lib.hid (btO HB1 (btO HB2 HB3))
  have HR := Lib.hid hrow
  have HSZ := Lib.hid (show w.heap.size < w1.heap.size ∧ w1.heap.size < w2.heap.size ∧ w2.heap.size < w3.heap.size by omega)
  show Calls Tryz.prog 19 #[.agg #[.slice fA fs.length fc, .slice cA cs.length cc], .agg #[.string n, .int .i64 d, .string v]] w _
  clear HB1 HB2 HB3 a0 a1 b0 b1 b2 hrow hs1 hs2 hs3
  obtain ⟨e0, e1, f0, f1, f2, r0, r1⟩ := P3.out
  have t0 := row_frz (j := 0) HR.out
  have t1 := row_frz (j := 1) HR.out
  go_enter Tryz.func19, Tryz.ntmps19
  go_wp2_with (first
    | (go_at_call 22; ((with_reducible refine (HE.out _ HB.out).mono ?_); rintro x w4 ⟨rfl, hb⟩; have M4 := Lib.hid (hb); clear hb e0 e1 f0 f1 f2 r0 r1 t0 t1; obtain ⟨e0, e1, f0, f1, f2, r0, r1⟩ := P3.out.below M4.out; have hr4 := (M4.out.block _ (lt_of_block HR.out)).trans HR.out; have t0 := row_frz (j := 0) hr4; have t1 := row_frz (j := 1) hr4; have R4 := Lib.hid hr4; clear hr4))
    | (go_at_call 53; ((with_reducible refine (HN.out _).mono ?_); rintro x w5 ⟨rfl, hb⟩; have M5 := Lib.hid (btO M4.out hb); clear hb e0 e1 f0 f1 f2 r0 r1 t0 t1; obtain ⟨e0, e1, f0, f1, f2, r0, r1⟩ := P3.out.below M5.out; have hr5 := (M5.out.block _ (lt_of_block HR.out)).trans HR.out; have t0 := row_frz (j := 0) hr5; have t1 := row_frz (j := 1) hr5; have R5 := Lib.hid hr5; clear hr5)))
  refine bodyPost_ret (results_row_tmpO rfl _ _ w2.heap.size 38 _ (0, 0) _ (.int .i64 2) rfl rfl (heap_set2O R5.out _ _) Tryz.underlying38 (by kernel_rfl) (by kernel_rfl)) rfl ?_
  exact putO_nil (((HB.out.trans (M5.out.mono HB.out.size)).setCell (p := ⟨w2.heap.size, 0, none⟩) (by show w.heap.size ≤ w2.heap.size; have := HSZ.out; omega) _).setCell (p := ⟨w2.heap.size, 1, none⟩) (by show w.heap.size ≤ w2.heap.size; have := HSZ.out; omega) _)
set_option maxRecDepth 100000 in
set_option maxHeartbeats 6400000 in
theorem pput_val (E : Ev) (n v : ByteArray) (d : Int) (w : World) (vc : Int) (hE : ∀ W, Below w.heap.size w W → Calls Tryz.prog 22 #[E.val] W (IntRO 0 W)) (hN : ∀ W, Calls Tryz.prog 53 #[.agg #[.string n, .int .i64 d, .string v]] W (BoolRO true W)) (hC : ∀ W, Below w.heap.size w W → Calls Tryz.prog 54 #[.string v] W (IntB vc W)) (hvc : ¬ vc = 0) : Calls Tryz.prog 19 #[E.val, .agg #[.string n, .int .i64 d, .string v]] w (PutO [] [] vc w) := by
  have HE := Lib.hid hE
  have HN := Lib.hid hN
  have HC := Lib.hid hC
  have h1 : (vc == 0) = false := by rw [beq_eq_false_iff_ne]; exact hvc
  clear hE hN hC
  obtain ⟨fA, fs, fc, cA, cs, cc⟩ := E
  have HB1 := belO w (.cells #[.slice fA fs.length fc, .slice cA cs.length cc] 38)
  obtain ⟨w1, hw1⟩ : ∃ w1, w.alloc (.cells #[.slice fA fs.length fc, .slice cA cs.length cc] 38) = w1 := ⟨_, rfl⟩
  have a0 : w1.cell? ⟨w.heap.size, 0, none⟩ = some (.slice fA fs.length fc) := by rw [← hw1, World.cell?_alloc_at _ _ _ _ rfl]; rfl
  have a1 : w1.cell? ⟨w.heap.size, 1, none⟩ = some (.slice cA cs.length cc) := by rw [← hw1, World.cell?_alloc_at _ _ _ _ rfl]; rfl
  have hs1 : w1.heap.size = w.heap.size + 1 := by rw [← hw1, World.size_alloc]
  rw [hw1] at HB1
  have HB2 := belO w1 (.cells #[.string n, .int .i64 d, .string v] 44)
  obtain ⟨w2, hw2⟩ : ∃ w2, w1.alloc (.cells #[.string n, .int .i64 d, .string v] 44) = w2 := ⟨_, rfl⟩
  have b0 : w2.cell? ⟨w1.heap.size, 0, none⟩ = some (.string n) := by rw [← hw2, World.cell?_alloc_at _ _ _ _ rfl]; rfl
  have b1 : w2.cell? ⟨w1.heap.size, 1, none⟩ = some (.int .i64 d) := by rw [← hw2, World.cell?_alloc_at _ _ _ _ rfl]; rfl
  have b2 : w2.cell? ⟨w1.heap.size, 2, none⟩ = some (.string v) := by rw [← hw2, World.cell?_alloc_at _ _ _ _ rfl]; rfl
  have hs2 : w2.heap.size = w1.heap.size + 1 := by rw [← hw2, World.size_alloc]
  rw [hw2] at HB2
  have HB3 := belO w2 (.cells #[.slice none 0 0, .slice none 0 0] 38)
  obtain ⟨w3, hw3⟩ : ∃ w3, w2.alloc (.cells #[.slice none 0 0, .slice none 0 0] 38) = w3 := ⟨_, rfl⟩
  have hrow : w3.heap[w2.heap.size]? = some (.cells #[.slice none 0 0, .slice none 0 0] 38 (0, 0)) := by rw [← hw3]; exact heap_alloc_new w2 _
  have hs3 : w3.heap.size = w2.heap.size + 1 := by rw [← hw3, World.size_alloc]
  rw [hw3] at HB3
  have P3 := Lib.hid (show PuB w.heap.size w1.heap.size w2.heap.size (.slice fA fs.length fc) (.slice cA cs.length cc) (.string n) (.int .i64 d) (.string v) w3 from ⟨cellO (btO HB2 HB3) a0, cellO (btO HB2 HB3) a1, cellO HB3 b0, cellO HB3 b1, cellO HB3 b2, row_cell (j := 0) hrow rfl, row_cell (j := 1) hrow rfl⟩)
  have HB := Lib.hid (btO HB1 (btO HB2 HB3))
  have HR := Lib.hid hrow
  have HSZ := Lib.hid (show w.heap.size < w1.heap.size ∧ w1.heap.size < w2.heap.size ∧ w2.heap.size < w3.heap.size by omega)
  show Calls Tryz.prog 19 #[.agg #[.slice fA fs.length fc, .slice cA cs.length cc], .agg #[.string n, .int .i64 d, .string v]] w _
  clear HB1 HB2 HB3 a0 a1 b0 b1 b2 hrow hs1 hs2 hs3
  obtain ⟨e0, e1, f0, f1, f2, r0, r1⟩ := P3.out
  have t0 := row_frz (j := 0) HR.out
  have t1 := row_frz (j := 1) HR.out
  go_enter Tryz.func19, Tryz.ntmps19
  go_wp2_with (first
    | (go_at_call 22; ((with_reducible refine (HE.out _ HB.out).mono ?_); rintro x w4 ⟨rfl, hb⟩; have M4 := Lib.hid (hb); clear hb e0 e1 f0 f1 f2 r0 r1 t0 t1; obtain ⟨e0, e1, f0, f1, f2, r0, r1⟩ := P3.out.below M4.out; have hr4 := (M4.out.block _ (lt_of_block HR.out)).trans HR.out; have t0 := row_frz (j := 0) hr4; have t1 := row_frz (j := 1) hr4; have R4 := Lib.hid hr4; clear hr4))
    | (go_at_call 53; ((with_reducible refine (HN.out _).mono ?_); rintro x w5 ⟨rfl, hb⟩; have M5 := Lib.hid (btO M4.out hb); clear hb e0 e1 f0 f1 f2 r0 r1 t0 t1; obtain ⟨e0, e1, f0, f1, f2, r0, r1⟩ := P3.out.below M5.out; have hr5 := (M5.out.block _ (lt_of_block HR.out)).trans HR.out; have t0 := row_frz (j := 0) hr5; have t1 := row_frz (j := 1) hr5; have R5 := Lib.hid hr5; clear hr5))
    | (go_at_call 54; ((with_reducible refine (HC.out _ (btO HB.out M5.out)).mono ?_); rintro x w6 ⟨rfl, hb⟩; have M6 := Lib.hid (btO M5.out hb); clear hb e0 e1 f0 f1 f2 r0 r1 t0 t1; obtain ⟨e0, e1, f0, f1, f2, r0, r1⟩ := P3.out.below M6.out; have hr6 := (M6.out.block _ (lt_of_block HR.out)).trans HR.out; have t0 := row_frz (j := 0) hr6; have t1 := row_frz (j := 1) hr6; have R6 := Lib.hid hr6; clear hr6)))
  refine bodyPost_ret (results_row_tmpO rfl _ _ w2.heap.size 38 _ (0, 0) _ (.int .i64 vc) rfl rfl (heap_set2O R6.out _ _) Tryz.underlying38 (by kernel_rfl) (by kernel_rfl)) rfl ?_
  exact putO_nil (((HB.out.trans (M6.out.mono HB.out.size)).setCell (p := ⟨w2.heap.size, 0, none⟩) (by show w.heap.size ≤ w2.heap.size; have := HSZ.out; omega) _).setCell (p := ⟨w2.heap.size, 1, none⟩) (by show w.heap.size ≤ w2.heap.size; have := HSZ.out; omega) _)
set_option maxRecDepth 100000 in
set_option maxHeartbeats 6400000 in
theorem pput_full (E : Ev) (n v : ByteArray) (d : Int) (w : World) (hE : ∀ W, Below w.heap.size w W → Calls Tryz.prog 22 #[E.val] W (IntRO 0 W)) (hN : ∀ W, Calls Tryz.prog 53 #[.agg #[.string n, .int .i64 d, .string v]] W (BoolRO true W)) (hC : ∀ W, Below w.heap.size w W → Calls Tryz.prog 54 #[.string v] W (IntB 0 W)) (hP : ∀ W, Below w.heap.size w W → Calls Tryz.prog 55 #[.slice E.fA E.fs.length E.fc, .agg #[.string n, .int .i64 d, .string v], .func (.func 56) #[] #[]] W fun e w' => e = .returned (.tuple #[.slice none 0 0, .int .i64 22]) ∧ Below W.heap.size W w') : Calls Tryz.prog 19 #[E.val, .agg #[.string n, .int .i64 d, .string v]] w (PutO [] [] 22 w) := by
  have HE := Lib.hid hE
  have HN := Lib.hid hN
  have HC := Lib.hid hC
  have HP := Lib.hid hP
  clear hE hN hC hP
  obtain ⟨fA, fs, fc, cA, cs, cc⟩ := E
  have HB1 := belO w (.cells #[.slice fA fs.length fc, .slice cA cs.length cc] 38)
  obtain ⟨w1, hw1⟩ : ∃ w1, w.alloc (.cells #[.slice fA fs.length fc, .slice cA cs.length cc] 38) = w1 := ⟨_, rfl⟩
  have a0 : w1.cell? ⟨w.heap.size, 0, none⟩ = some (.slice fA fs.length fc) := by rw [← hw1, World.cell?_alloc_at _ _ _ _ rfl]; rfl
  have a1 : w1.cell? ⟨w.heap.size, 1, none⟩ = some (.slice cA cs.length cc) := by rw [← hw1, World.cell?_alloc_at _ _ _ _ rfl]; rfl
  have hs1 : w1.heap.size = w.heap.size + 1 := by rw [← hw1, World.size_alloc]
  rw [hw1] at HB1
  have HB2 := belO w1 (.cells #[.string n, .int .i64 d, .string v] 44)
  obtain ⟨w2, hw2⟩ : ∃ w2, w1.alloc (.cells #[.string n, .int .i64 d, .string v] 44) = w2 := ⟨_, rfl⟩
  have b0 : w2.cell? ⟨w1.heap.size, 0, none⟩ = some (.string n) := by rw [← hw2, World.cell?_alloc_at _ _ _ _ rfl]; rfl
  have b1 : w2.cell? ⟨w1.heap.size, 1, none⟩ = some (.int .i64 d) := by rw [← hw2, World.cell?_alloc_at _ _ _ _ rfl]; rfl
  have b2 : w2.cell? ⟨w1.heap.size, 2, none⟩ = some (.string v) := by rw [← hw2, World.cell?_alloc_at _ _ _ _ rfl]; rfl
  have hs2 : w2.heap.size = w1.heap.size + 1 := by rw [← hw2, World.size_alloc]
  rw [hw2] at HB2
  have HB3 := belO w2 (.cells #[.slice none 0 0, .slice none 0 0] 38)
  obtain ⟨w3, hw3⟩ : ∃ w3, w2.alloc (.cells #[.slice none 0 0, .slice none 0 0] 38) = w3 := ⟨_, rfl⟩
  have hrow : w3.heap[w2.heap.size]? = some (.cells #[.slice none 0 0, .slice none 0 0] 38 (0, 0)) := by rw [← hw3]; exact heap_alloc_new w2 _
  have hs3 : w3.heap.size = w2.heap.size + 1 := by rw [← hw3, World.size_alloc]
  rw [hw3] at HB3
  have P3 := Lib.hid (show PuB w.heap.size w1.heap.size w2.heap.size (.slice fA fs.length fc) (.slice cA cs.length cc) (.string n) (.int .i64 d) (.string v) w3 from ⟨cellO (btO HB2 HB3) a0, cellO (btO HB2 HB3) a1, cellO HB3 b0, cellO HB3 b1, cellO HB3 b2, row_cell (j := 0) hrow rfl, row_cell (j := 1) hrow rfl⟩)
  have HB := Lib.hid (btO HB1 (btO HB2 HB3))
  have HR := Lib.hid hrow
  have HSZ := Lib.hid (show w.heap.size < w1.heap.size ∧ w1.heap.size < w2.heap.size ∧ w2.heap.size < w3.heap.size by omega)
  show Calls Tryz.prog 19 #[.agg #[.slice fA fs.length fc, .slice cA cs.length cc], .agg #[.string n, .int .i64 d, .string v]] w _
  clear HB1 HB2 HB3 a0 a1 b0 b1 b2 hrow hs1 hs2 hs3
  obtain ⟨e0, e1, f0, f1, f2, r0, r1⟩ := P3.out
  have t0 := row_frz (j := 0) HR.out
  have t1 := row_frz (j := 1) HR.out
  go_enter Tryz.func19, Tryz.ntmps19
  go_wp2_with (first
    | (go_at_call 22; ((with_reducible refine (HE.out _ HB.out).mono ?_); rintro x w4 ⟨rfl, hb⟩; have M4 := Lib.hid (hb); clear hb e0 e1 f0 f1 f2 r0 r1 t0 t1; obtain ⟨e0, e1, f0, f1, f2, r0, r1⟩ := P3.out.below M4.out; have hr4 := (M4.out.block _ (lt_of_block HR.out)).trans HR.out; have t0 := row_frz (j := 0) hr4; have t1 := row_frz (j := 1) hr4; have R4 := Lib.hid hr4; clear hr4))
    | (go_at_call 53; ((with_reducible refine (HN.out _).mono ?_); rintro x w5 ⟨rfl, hb⟩; have M5 := Lib.hid (btO M4.out hb); clear hb e0 e1 f0 f1 f2 r0 r1 t0 t1; obtain ⟨e0, e1, f0, f1, f2, r0, r1⟩ := P3.out.below M5.out; have hr5 := (M5.out.block _ (lt_of_block HR.out)).trans HR.out; have t0 := row_frz (j := 0) hr5; have t1 := row_frz (j := 1) hr5; have R5 := Lib.hid hr5; clear hr5))
    | (go_at_call 54; ((with_reducible refine (HC.out _ (btO HB.out M5.out)).mono ?_); rintro x w6 ⟨rfl, hb⟩; have M6 := Lib.hid (btO M5.out hb); clear hb e0 e1 f0 f1 f2 r0 r1 t0 t1; obtain ⟨e0, e1, f0, f1, f2, r0, r1⟩ := P3.out.below M6.out; have hr6 := (M6.out.block _ (lt_of_block HR.out)).trans HR.out; have t0 := row_frz (j := 0) hr6; have t1 := row_frz (j := 1) hr6; have R6 := Lib.hid hr6; clear hr6))
    | (go_at_call 55; ((with_reducible refine (HP.out _ (btO HB.out M6.out)).mono ?_); rintro x w7 ⟨rfl, hb⟩; have M7 := Lib.hid (btO M6.out hb); clear hb e0 e1 f0 f1 f2 r0 r1 t0 t1; obtain ⟨e0, e1, f0, f1, f2, r0, r1⟩ := P3.out.below M7.out; have hr7 := (M7.out.block _ (lt_of_block HR.out)).trans HR.out; have t0 := row_frz (j := 0) hr7; have t1 := row_frz (j := 1) hr7; have R7 := Lib.hid hr7; clear hr7)))
  refine bodyPost_ret (results_row_tmpO rfl _ _ w2.heap.size 38 _ (0, 0) _ (.int .i64 22) rfl rfl (heap_set2O R7.out _ _) Tryz.underlying38 (by kernel_rfl) (by kernel_rfl)) rfl ?_
  exact putO_nil (((HB.out.trans (M7.out.mono HB.out.size)).setCell (p := ⟨w2.heap.size, 0, none⟩) (by show w.heap.size ≤ w2.heap.size; have := HSZ.out; omega) _).setCell (p := ⟨w2.heap.size, 1, none⟩) (by show w.heap.size ≤ w2.heap.size; have := HSZ.out; omega) _)
set_option maxRecDepth 100000 in
set_option maxHeartbeats 6400000 in
theorem pput_ok (E : Ev) (n v : ByteArray) (d : Int) (w : World) (hin : E.In w) (L : List Fx) (hl2 : E.cs.length ≤ 1000) (hE : ∀ W, Below w.heap.size w W → Calls Tryz.prog 22 #[E.val] W (IntRO 0 W)) (hN : ∀ W, Calls Tryz.prog 53 #[.agg #[.string n, .int .i64 d, .string v]] W (BoolRO true W)) (hC : ∀ W, Below w.heap.size w W → Calls Tryz.prog 54 #[.string v] W (IntB 0 W)) (hP : ∀ W, Below w.heap.size w W → Calls Tryz.prog 55 #[.slice E.fA E.fs.length E.fc, .agg #[.string n, .int .i64 d, .string v], .func (.func 56) #[] #[]] W (PlcR 44 3 (rowsV fxC L) L.length W)) : Calls Tryz.prog 19 #[E.val, .agg #[.string n, .int .i64 d, .string v]] w (PutO L E.cs 0 w) := by
  obtain ⟨iC, hiC, hzC, hsC, hbC⟩ := info_parts infoCx
  have HE := Lib.hid hE
  have HN := Lib.hid hN
  have HC := Lib.hid hC
  have HP := Lib.hid hP
  clear hE hN hC hP
  obtain ⟨fA, fs, fc, cA, cs, cc⟩ := E
  have HB1 := belO w (.cells #[.slice fA fs.length fc, .slice cA cs.length cc] 38)
  obtain ⟨w1, hw1⟩ : ∃ w1, w.alloc (.cells #[.slice fA fs.length fc, .slice cA cs.length cc] 38) = w1 := ⟨_, rfl⟩
  have a0 : w1.cell? ⟨w.heap.size, 0, none⟩ = some (.slice fA fs.length fc) := by rw [← hw1, World.cell?_alloc_at _ _ _ _ rfl]; rfl
  have a1 : w1.cell? ⟨w.heap.size, 1, none⟩ = some (.slice cA cs.length cc) := by rw [← hw1, World.cell?_alloc_at _ _ _ _ rfl]; rfl
  have hs1 : w1.heap.size = w.heap.size + 1 := by rw [← hw1, World.size_alloc]
  rw [hw1] at HB1
  have HB2 := belO w1 (.cells #[.string n, .int .i64 d, .string v] 44)
  obtain ⟨w2, hw2⟩ : ∃ w2, w1.alloc (.cells #[.string n, .int .i64 d, .string v] 44) = w2 := ⟨_, rfl⟩
  have b0 : w2.cell? ⟨w1.heap.size, 0, none⟩ = some (.string n) := by rw [← hw2, World.cell?_alloc_at _ _ _ _ rfl]; rfl
  have b1 : w2.cell? ⟨w1.heap.size, 1, none⟩ = some (.int .i64 d) := by rw [← hw2, World.cell?_alloc_at _ _ _ _ rfl]; rfl
  have b2 : w2.cell? ⟨w1.heap.size, 2, none⟩ = some (.string v) := by rw [← hw2, World.cell?_alloc_at _ _ _ _ rfl]; rfl
  have hs2 : w2.heap.size = w1.heap.size + 1 := by rw [← hw2, World.size_alloc]
  rw [hw2] at HB2
  have HB3 := belO w2 (.cells #[.slice none 0 0, .slice none 0 0] 38)
  obtain ⟨w3, hw3⟩ : ∃ w3, w2.alloc (.cells #[.slice none 0 0, .slice none 0 0] 38) = w3 := ⟨_, rfl⟩
  have hrow : w3.heap[w2.heap.size]? = some (.cells #[.slice none 0 0, .slice none 0 0] 38 (0, 0)) := by rw [← hw3]; exact heap_alloc_new w2 _
  have hs3 : w3.heap.size = w2.heap.size + 1 := by rw [← hw3, World.size_alloc]
  rw [hw3] at HB3
  have P3 := Lib.hid (show PuB w.heap.size w1.heap.size w2.heap.size (.slice fA fs.length fc) (.slice cA cs.length cc) (.string n) (.int .i64 d) (.string v) w3 from ⟨cellO (btO HB2 HB3) a0, cellO (btO HB2 HB3) a1, cellO HB3 b0, cellO HB3 b1, cellO HB3 b2, row_cell (j := 0) hrow rfl, row_cell (j := 1) hrow rfl⟩)
  have HB := Lib.hid (btO HB1 (btO HB2 HB3))
  have HI := Lib.hid ((hin.below HB1).below (btO HB2 HB3))
  have HR := Lib.hid hrow
  have HSZ := Lib.hid (show w.heap.size < w1.heap.size ∧ w1.heap.size < w2.heap.size ∧ w2.heap.size < w3.heap.size by omega)
  show Calls Tryz.prog 19 #[.agg #[.slice fA fs.length fc, .slice cA cs.length cc], .agg #[.string n, .int .i64 d, .string v]] w _
  clear HB1 HB2 HB3 a0 a1 b0 b1 b2 hrow hs1 hs2 hs3
  obtain ⟨e0, e1, f0, f1, f2, r0, r1⟩ := P3.out
  have t0 := row_frz (j := 0) HR.out
  have t1 := row_frz (j := 1) HR.out
  replace hl2 : cs.length ≤ 1000 := hl2
  clear hin
  go_enter Tryz.func19, Tryz.ntmps19
  go_wp2_with (first
    | (go_at_call 22; ((with_reducible refine (HE.out _ HB.out).mono ?_); rintro x w4 ⟨rfl, hb⟩; have M4 := Lib.hid (hb); clear hb e0 e1 f0 f1 f2 r0 r1 t0 t1; obtain ⟨e0, e1, f0, f1, f2, r0, r1⟩ := P3.out.below M4.out; have hr4 := (M4.out.block _ (lt_of_block HR.out)).trans HR.out; have t0 := row_frz (j := 0) hr4; have t1 := row_frz (j := 1) hr4; have R4 := Lib.hid hr4; clear hr4))
    | (go_at_call 53; ((with_reducible refine (HN.out _).mono ?_); rintro x w5 ⟨rfl, hb⟩; have M5 := Lib.hid (btO M4.out hb); clear hb e0 e1 f0 f1 f2 r0 r1 t0 t1; obtain ⟨e0, e1, f0, f1, f2, r0, r1⟩ := P3.out.below M5.out; have hr5 := (M5.out.block _ (lt_of_block HR.out)).trans HR.out; have t0 := row_frz (j := 0) hr5; have t1 := row_frz (j := 1) hr5; have R5 := Lib.hid hr5; clear hr5))
    | (go_at_call 54; ((with_reducible refine (HC.out _ (btO HB.out M5.out)).mono ?_); rintro x w6 ⟨rfl, hb⟩; have M6 := Lib.hid (btO M5.out hb); clear hb e0 e1 f0 f1 f2 r0 r1 t0 t1; obtain ⟨e0, e1, f0, f1, f2, r0, r1⟩ := P3.out.below M6.out; have hr6 := (M6.out.block _ (lt_of_block HR.out)).trans HR.out; have t0 := row_frz (j := 0) hr6; have t1 := row_frz (j := 1) hr6; have R6 := Lib.hid hr6; clear hr6))
    | (go_at_call 55; ((with_reducible refine (HP.out _ (btO HB.out M6.out)).mono ?_); rintro x w7 ⟨u, rfl, hown, hb⟩; obtain ⟨A7, c7, rfl, -, -, -, -, -, -⟩ := RowsR.of_own fxC_len (by decide) hown; have O7 := Lib.hid hown; have M7 := Lib.hid (btO M6.out hb); clear hown hb e0 e1 f0 f1 f2 r0 r1 t0 t1; obtain ⟨e0, e1, f0, f1, f2, r0, r1⟩ := P3.out.below M7.out))
    | (at_builtin; refine wpList_appL (base := w7.heap.size) (xs := ([] : List Cx)) cxC_len (by decide) cxC_one (World.ownsRow_nil _ _ _ _) cA cs cs.length cc rfl (HI.out.c.below M7.out) rfl _ _ 36 rfl iC _ 48 Tryz.underlying36 hiC hzC hsC hbC rfl rfl rfl (by unfold maxLen; omega) (by omega) (Nat.le_refl _) ?_; intro v' w8 hown hb; rw [Nat.zero_add, List.nil_append] at hown; obtain ⟨A8, c8, rfl, -, -, -, -, -, -⟩ := RowsR.of_own cxC_len (by decide) hown; have O8 := Lib.hid hown; have N8 := Lib.hid hb; have M8 := Lib.hid (btO M7.out hb); clear hown hb e0 e1 f0 f1 f2 r0 r1; obtain ⟨e0, e1, f0, f1, f2, r0, r1⟩ := P3.out.below M8.out; have hr8 := (M8.out.block _ (lt_of_block HR.out)).trans HR.out; have t0 := row_frz (j := 0) hr8; have t1 := row_frz (j := 1) hr8; have R8 := Lib.hid hr8; clear hr8))
  refine bodyPost_ret (results_row_tmpO rfl _ _ w2.heap.size 38 _ (0, 0) _ (.int .i64 0) rfl rfl (heap_set2O R8.out _ _) Tryz.underlying38 (by kernel_rfl) (by kernel_rfl)) rfl ?_
  have hs := HSZ.out
  have h6 := M6.out.size
  have h7 := M7.out.size
  have hb := HB.out.size
  refine ⟨_, _, rfl, ?_, ?_, ?_⟩
  · exact own_lowO (own_setO (own_setO (own_belO O7.out N8.out) (p := ⟨w2.heap.size, 0, none⟩) (by show w2.heap.size < w6.heap.size; omega) _) (p := ⟨w2.heap.size, 1, none⟩) (by show w2.heap.size < w6.heap.size; omega) _) (by omega)
  · exact own_lowO (own_setO (own_setO O8.out (p := ⟨w2.heap.size, 0, none⟩) (by show w2.heap.size < w7.heap.size; omega) _) (p := ⟨w2.heap.size, 1, none⟩) (by show w2.heap.size < w7.heap.size; omega) _) (by omega)
  · exact ((HB.out.trans (M8.out.mono HB.out.size)).setCell (p := ⟨w2.heap.size, 0, none⟩) (by show w.heap.size ≤ w2.heap.size; omega) _).setCell (p := ⟨w2.heap.size, 1, none⟩) (by show w.heap.size ≤ w2.heap.size; omega) _
theorem pput_any (E : Ev) (n v : ByteArray) (d : Int) (w : World) (hin : E.In w) (hvr : VarR w) (hsf : ∀ f ∈ E.fs, f.2.2.size ≤ 1048576) (hcap : CapR E.fA E.fs.length E.fc) (hv : v.size ≤ 1048576) :
    Calls Tryz.prog 19 #[E.val, .agg #[.string n, .int .i64 d, .string v]] w (PutO (putFL E.fs E.cs (n, d, v)) (putFC E.fs E.cs (n, d, v)) (putFE E.fs E.cs (n, d, v)) w) := by
  have hE : ∀ W, Below w.heap.size w W → Calls Tryz.prog 22 #[E.val] W (IntRO (envE E.fs E.cs) W) := fun W hW => pcheckEnv_any E W (hin.below hW) (hvr.below hW) hsf
  have hN : ∀ W, Calls Tryz.prog 53 #[.agg #[.string n, .int .i64 d, .string v]] W (BoolRO (nameO n.data.toList && dayO d) W) := fun W => hasPlace_any n d v W
  have hC : ∀ W, Below w.heap.size w W → Calls Tryz.prog 54 #[.string v] W (IntB (chkR v.data.toList) W) := fun W hW => rcheck_any v hv W (hvr.below hW)
  have bad : ∀ e, putFE E.fs E.cs (n, d, v) = e → ¬ e = 0 → Calls Tryz.prog 19 #[E.val, .agg #[.string n, .int .i64 d, .string v]] w (PutO [] [] e w) → Calls Tryz.prog 19 #[E.val, .agg #[.string n, .int .i64 d, .string v]] w (PutO (putFL E.fs E.cs (n, d, v)) (putFC E.fs E.cs (n, d, v)) (putFE E.fs E.cs (n, d, v)) w) := fun e h1 h2 h => by
    unfold putFL putFC
    rw [h1, if_neg h2, if_neg h2]
    exact h
  have hdef : putFE E.fs E.cs (n, d, v) = if envE E.fs E.cs ≠ 0 then envE E.fs E.cs else if (nameO n.data.toList && dayO d) = false then 2 else if chkR v.data.toList ≠ 0 then chkR v.data.toList else if 1000 < (insL Fx.key (n, d, v) E.fs).length then 22 else 0 := rfl
  by_cases h1 : envE E.fs E.cs = 0
  · rw [if_neg (by simp [h1])] at hdef
    rw [h1] at hE
    cases hB : (nameO n.data.toList && dayO d)
    · rw [hB, if_pos rfl] at hdef
      rw [hB] at hN
      exact bad 2 hdef (by decide) (pput_arg E n v d w hE hN)
    · rw [hB, if_neg (by decide)] at hdef
      rw [hB] at hN
      by_cases h2 : chkR v.data.toList = 0
      · rw [if_neg (by simp [h2])] at hdef
        rw [h2] at hC
        obtain ⟨l1, l2, o1, o2⟩ := envE_zero h1
        have hP := fun W (hW : Below w.heap.size w W) => placedF_any n v d E.fA E.fc E.fs W (hin.f.below hW) hcap l1 (inc_of o1).1
        by_cases h3 : 1000 < (insL Fx.key (n, d, v) E.fs).length
        · rw [if_pos h3] at hdef
          refine bad 22 hdef (by decide) (pput_full E n v d w hE hN hC fun W hW => (hP W hW).mono ?_)
          rintro e w' (⟨h, -⟩ | ⟨-, h⟩)
          · omega
          · exact h
        · rw [if_neg h3] at hdef
          unfold putFL putFC
          rw [hdef, if_pos rfl, if_pos rfl]
          refine pput_ok E n v d w hin _ l2 hE hN hC fun W hW => (hP W hW).mono ?_
          rintro e w' (⟨-, h⟩ | ⟨h, -⟩)
          · exact h
          · exact absurd h h3
      · rw [if_pos h2] at hdef
        exact bad _ hdef h2 (pput_val E n v d w _ hE hN hC h2)
  · rw [if_pos h1] at hdef
    exact bad _ hdef h1 (pput_env E n v d w _ hE h1)
end Go.Proofs.YtbfimfjhdbpenaaGreatDoor
/- Layer 8: the program's Choose. -/
namespace Go.Proofs.YtbfimfjhdbpenaaGreatDoor
open Go Go.RowKit Go.BigFrame
set_option maxRecDepth 100000 in
set_option maxHeartbeats 6400000 in
theorem pchoose_env (E : Ev) (pp n : ByteArray) (d : Int) (ff : Bool) (w : World) (ve : Int) (hE : ∀ W, Below w.heap.size w W → Calls Tryz.prog 22 #[E.val] W (IntRO ve W)) (hve : ¬ ve = 0) : Calls Tryz.prog 20 #[E.val, .agg #[.string pp, .string n, .int .i64 d, .bool ff]] w (PutO [] [] ve w) := by
  have HE := Lib.hid hE
  have h1 : (ve == 0) = false := by rw [beq_eq_false_iff_ne]; exact hve
  clear hE
  obtain ⟨fA, fs, fc, cA, cs, cc⟩ := E
  have HB1 := belO w (.cells #[.slice fA fs.length fc, .slice cA cs.length cc] 38)
  obtain ⟨w1, hw1⟩ : ∃ w1, w.alloc (.cells #[.slice fA fs.length fc, .slice cA cs.length cc] 38) = w1 := ⟨_, rfl⟩
  have a0 : w1.cell? ⟨w.heap.size, 0, none⟩ = some (.slice fA fs.length fc) := by rw [← hw1, World.cell?_alloc_at _ _ _ _ rfl]; rfl
  have a1 : w1.cell? ⟨w.heap.size, 1, none⟩ = some (.slice cA cs.length cc) := by rw [← hw1, World.cell?_alloc_at _ _ _ _ rfl]; rfl
  have hs1 : w1.heap.size = w.heap.size + 1 := by rw [← hw1, World.size_alloc]
  rw [hw1] at HB1
  have HB2 := belO w1 (.cells #[.string pp, .string n, .int .i64 d, .bool ff] 47)
  obtain ⟨w2, hw2⟩ : ∃ w2, w1.alloc (.cells #[.string pp, .string n, .int .i64 d, .bool ff] 47) = w2 := ⟨_, rfl⟩
  have b0 : w2.cell? ⟨w1.heap.size, 0, none⟩ = some (.string pp) := by rw [← hw2, World.cell?_alloc_at _ _ _ _ rfl]; rfl
  have b1 : w2.cell? ⟨w1.heap.size, 1, none⟩ = some (.string n) := by rw [← hw2, World.cell?_alloc_at _ _ _ _ rfl]; rfl
  have b2 : w2.cell? ⟨w1.heap.size, 2, none⟩ = some (.int .i64 d) := by rw [← hw2, World.cell?_alloc_at _ _ _ _ rfl]; rfl
  have b3 : w2.cell? ⟨w1.heap.size, 3, none⟩ = some (.bool ff) := by rw [← hw2, World.cell?_alloc_at _ _ _ _ rfl]; rfl
  have hs2 : w2.heap.size = w1.heap.size + 1 := by rw [← hw2, World.size_alloc]
  rw [hw2] at HB2
  have HB3 := belO w2 (.cells #[.slice none 0 0, .slice none 0 0] 38)
  obtain ⟨w3, hw3⟩ : ∃ w3, w2.alloc (.cells #[.slice none 0 0, .slice none 0 0] 38) = w3 := ⟨_, rfl⟩
  have hrow : w3.heap[w2.heap.size]? = some (.cells #[.slice none 0 0, .slice none 0 0] 38 (0, 0)) := by rw [← hw3]; exact heap_alloc_new w2 _
  have hs3 : w3.heap.size = w2.heap.size + 1 := by rw [← hw3, World.size_alloc]
  rw [hw3] at HB3
  have P3 := Lib.hid (show PuBC w.heap.size w1.heap.size w2.heap.size (.slice fA fs.length fc) (.slice cA cs.length cc) (.string pp) (.string n) (.int .i64 d) (.bool ff) w3 from ⟨cellO (btO HB2 HB3) a0, cellO (btO HB2 HB3) a1, cellO HB3 b0, cellO HB3 b1, cellO HB3 b2, cellO HB3 b3, row_cell (j := 0) hrow rfl, row_cell (j := 1) hrow rfl⟩)
  have HB := Lib.hid (btO HB1 (btO HB2 HB3))
  have HR := Lib.hid hrow
  have HSZ := Lib.hid (show w.heap.size < w1.heap.size ∧ w1.heap.size < w2.heap.size ∧ w2.heap.size < w3.heap.size by omega)
  show Calls Tryz.prog 20 #[.agg #[.slice fA fs.length fc, .slice cA cs.length cc], .agg #[.string pp, .string n, .int .i64 d, .bool ff]] w _
  clear HB1 HB2 HB3 a0 a1 b0 b1 b2 b3 hrow hs1 hs2 hs3
  obtain ⟨e0, e1, f0, f1, f2, f3, r0, r1⟩ := P3.out
  have t0 := row_frz (j := 0) HR.out
  have t1 := row_frz (j := 1) HR.out
  go_enter Tryz.func20, Tryz.ntmps20
  go_wp2_with (first
    | (go_at_call 22; ((with_reducible refine (HE.out _ HB.out).mono ?_); rintro x w4 ⟨rfl, hb⟩; have M4 := Lib.hid (hb); clear hb e0 e1 f0 f1 f2 f3 r0 r1 t0 t1; obtain ⟨e0, e1, f0, f1, f2, f3, r0, r1⟩ := P3.out.below M4.out; have hr4 := (M4.out.block _ (lt_of_block HR.out)).trans HR.out; have t0 := row_frz (j := 0) hr4; have t1 := row_frz (j := 1) hr4; have R4 := Lib.hid hr4; clear hr4)))
  refine bodyPost_ret (results_row_tmpO rfl _ _ w2.heap.size 38 _ (0, 0) _ (.int .i64 ve) rfl rfl (heap_set2O R4.out _ _) Tryz.underlying38 (by kernel_rfl) (by kernel_rfl)) rfl ?_
  exact putO_nil (((HB.out.trans (M4.out.mono HB.out.size)).setCell (p := ⟨w2.heap.size, 0, none⟩) (by show w.heap.size ≤ w2.heap.size; have := HSZ.out; omega) _).setCell (p := ⟨w2.heap.size, 1, none⟩) (by show w.heap.size ≤ w2.heap.size; have := HSZ.out; omega) _)
set_option maxRecDepth 100000 in
set_option maxHeartbeats 6400000 in
theorem pchoose_arg (E : Ev) (pp n : ByteArray) (d : Int) (ff : Bool) (w : World) (hE : ∀ W, Below w.heap.size w W → Calls Tryz.prog 22 #[E.val] W (IntRO 0 W)) (hN : ∀ W, Calls Tryz.prog 57 #[.agg #[.string pp, .string n, .int .i64 d, .bool ff]] W (BoolRO false W)) : Calls Tryz.prog 20 #[E.val, .agg #[.string pp, .string n, .int .i64 d, .bool ff]] w (PutO [] [] 2 w) := by
  have HE := Lib.hid hE
  have HN := Lib.hid hN
  clear hE hN
  obtain ⟨fA, fs, fc, cA, cs, cc⟩ := E
  have HB1 := belO w (.cells #[.slice fA fs.length fc, .slice cA cs.length cc] 38)
  obtain ⟨w1, hw1⟩ : ∃ w1, w.alloc (.cells #[.slice fA fs.length fc, .slice cA cs.length cc] 38) = w1 := ⟨_, rfl⟩
  have a0 : w1.cell? ⟨w.heap.size, 0, none⟩ = some (.slice fA fs.length fc) := by rw [← hw1, World.cell?_alloc_at _ _ _ _ rfl]; rfl
  have a1 : w1.cell? ⟨w.heap.size, 1, none⟩ = some (.slice cA cs.length cc) := by rw [← hw1, World.cell?_alloc_at _ _ _ _ rfl]; rfl
  have hs1 : w1.heap.size = w.heap.size + 1 := by rw [← hw1, World.size_alloc]
  rw [hw1] at HB1
  have HB2 := belO w1 (.cells #[.string pp, .string n, .int .i64 d, .bool ff] 47)
  obtain ⟨w2, hw2⟩ : ∃ w2, w1.alloc (.cells #[.string pp, .string n, .int .i64 d, .bool ff] 47) = w2 := ⟨_, rfl⟩
  have b0 : w2.cell? ⟨w1.heap.size, 0, none⟩ = some (.string pp) := by rw [← hw2, World.cell?_alloc_at _ _ _ _ rfl]; rfl
  have b1 : w2.cell? ⟨w1.heap.size, 1, none⟩ = some (.string n) := by rw [← hw2, World.cell?_alloc_at _ _ _ _ rfl]; rfl
  have b2 : w2.cell? ⟨w1.heap.size, 2, none⟩ = some (.int .i64 d) := by rw [← hw2, World.cell?_alloc_at _ _ _ _ rfl]; rfl
  have b3 : w2.cell? ⟨w1.heap.size, 3, none⟩ = some (.bool ff) := by rw [← hw2, World.cell?_alloc_at _ _ _ _ rfl]; rfl
  have hs2 : w2.heap.size = w1.heap.size + 1 := by rw [← hw2, World.size_alloc]
  rw [hw2] at HB2
  have HB3 := belO w2 (.cells #[.slice none 0 0, .slice none 0 0] 38)
  obtain ⟨w3, hw3⟩ : ∃ w3, w2.alloc (.cells #[.slice none 0 0, .slice none 0 0] 38) = w3 := ⟨_, rfl⟩
  have hrow : w3.heap[w2.heap.size]? = some (.cells #[.slice none 0 0, .slice none 0 0] 38 (0, 0)) := by rw [← hw3]; exact heap_alloc_new w2 _
  have hs3 : w3.heap.size = w2.heap.size + 1 := by rw [← hw3, World.size_alloc]
  rw [hw3] at HB3
  have P3 := Lib.hid (show PuBC w.heap.size w1.heap.size w2.heap.size (.slice fA fs.length fc) (.slice cA cs.length cc) (.string pp) (.string n) (.int .i64 d) (.bool ff) w3 from ⟨cellO (btO HB2 HB3) a0, cellO (btO HB2 HB3) a1, cellO HB3 b0, cellO HB3 b1, cellO HB3 b2, cellO HB3 b3, row_cell (j := 0) hrow rfl, row_cell (j := 1) hrow rfl⟩)
  have HB := Lib.hid (btO HB1 (btO HB2 HB3))
  have HR := Lib.hid hrow
  have HSZ := Lib.hid (show w.heap.size < w1.heap.size ∧ w1.heap.size < w2.heap.size ∧ w2.heap.size < w3.heap.size by omega)
  show Calls Tryz.prog 20 #[.agg #[.slice fA fs.length fc, .slice cA cs.length cc], .agg #[.string pp, .string n, .int .i64 d, .bool ff]] w _
  clear HB1 HB2 HB3 a0 a1 b0 b1 b2 b3 hrow hs1 hs2 hs3
  obtain ⟨e0, e1, f0, f1, f2, f3, r0, r1⟩ := P3.out
  have t0 := row_frz (j := 0) HR.out
  have t1 := row_frz (j := 1) HR.out
  go_enter Tryz.func20, Tryz.ntmps20
  go_wp2_with (first
    | (go_at_call 22; ((with_reducible refine (HE.out _ HB.out).mono ?_); rintro x w4 ⟨rfl, hb⟩; have M4 := Lib.hid (hb); clear hb e0 e1 f0 f1 f2 f3 r0 r1 t0 t1; obtain ⟨e0, e1, f0, f1, f2, f3, r0, r1⟩ := P3.out.below M4.out; have hr4 := (M4.out.block _ (lt_of_block HR.out)).trans HR.out; have t0 := row_frz (j := 0) hr4; have t1 := row_frz (j := 1) hr4; have R4 := Lib.hid hr4; clear hr4))
    | (go_at_call 57; ((with_reducible refine (HN.out _).mono ?_); rintro x w5 ⟨rfl, hb⟩; have M5 := Lib.hid (btO M4.out hb); clear hb e0 e1 f0 f1 f2 f3 r0 r1 t0 t1; obtain ⟨e0, e1, f0, f1, f2, f3, r0, r1⟩ := P3.out.below M5.out; have hr5 := (M5.out.block _ (lt_of_block HR.out)).trans HR.out; have t0 := row_frz (j := 0) hr5; have t1 := row_frz (j := 1) hr5; have R5 := Lib.hid hr5; clear hr5)))
  refine bodyPost_ret (results_row_tmpO rfl _ _ w2.heap.size 38 _ (0, 0) _ (.int .i64 2) rfl rfl (heap_set2O R5.out _ _) Tryz.underlying38 (by kernel_rfl) (by kernel_rfl)) rfl ?_
  exact putO_nil (((HB.out.trans (M5.out.mono HB.out.size)).setCell (p := ⟨w2.heap.size, 0, none⟩) (by show w.heap.size ≤ w2.heap.size; have := HSZ.out; omega) _).setCell (p := ⟨w2.heap.size, 1, none⟩) (by show w.heap.size ≤ w2.heap.size; have := HSZ.out; omega) _)
set_option maxRecDepth 100000 in
set_option maxHeartbeats 6400000 in
theorem pchoose_full (E : Ev) (pp n : ByteArray) (d : Int) (ff : Bool) (w : World) (hE : ∀ W, Below w.heap.size w W → Calls Tryz.prog 22 #[E.val] W (IntRO 0 W)) (hN : ∀ W, Calls Tryz.prog 57 #[.agg #[.string pp, .string n, .int .i64 d, .bool ff]] W (BoolRO true W)) (hP : ∀ W, Below w.heap.size w W → Calls Tryz.prog 58 #[.slice E.cA E.cs.length E.cc, .agg #[.string pp, .string n, .int .i64 d, .bool ff], .func (.func 59) #[] #[]] W fun e w' => e = .returned (.tuple #[.slice none 0 0, .int .i64 22]) ∧ Below W.heap.size W w') : Calls Tryz.prog 20 #[E.val, .agg #[.string pp, .string n, .int .i64 d, .bool ff]] w (PutO [] [] 22 w) := by
  have HE := Lib.hid hE
  have HN := Lib.hid hN
  have HP := Lib.hid hP
  clear hE hN hP
  obtain ⟨fA, fs, fc, cA, cs, cc⟩ := E
  have HB1 := belO w (.cells #[.slice fA fs.length fc, .slice cA cs.length cc] 38)
  obtain ⟨w1, hw1⟩ : ∃ w1, w.alloc (.cells #[.slice fA fs.length fc, .slice cA cs.length cc] 38) = w1 := ⟨_, rfl⟩
  have a0 : w1.cell? ⟨w.heap.size, 0, none⟩ = some (.slice fA fs.length fc) := by rw [← hw1, World.cell?_alloc_at _ _ _ _ rfl]; rfl
  have a1 : w1.cell? ⟨w.heap.size, 1, none⟩ = some (.slice cA cs.length cc) := by rw [← hw1, World.cell?_alloc_at _ _ _ _ rfl]; rfl
  have hs1 : w1.heap.size = w.heap.size + 1 := by rw [← hw1, World.size_alloc]
  rw [hw1] at HB1
  have HB2 := belO w1 (.cells #[.string pp, .string n, .int .i64 d, .bool ff] 47)
  obtain ⟨w2, hw2⟩ : ∃ w2, w1.alloc (.cells #[.string pp, .string n, .int .i64 d, .bool ff] 47) = w2 := ⟨_, rfl⟩
  have b0 : w2.cell? ⟨w1.heap.size, 0, none⟩ = some (.string pp) := by rw [← hw2, World.cell?_alloc_at _ _ _ _ rfl]; rfl
  have b1 : w2.cell? ⟨w1.heap.size, 1, none⟩ = some (.string n) := by rw [← hw2, World.cell?_alloc_at _ _ _ _ rfl]; rfl
  have b2 : w2.cell? ⟨w1.heap.size, 2, none⟩ = some (.int .i64 d) := by rw [← hw2, World.cell?_alloc_at _ _ _ _ rfl]; rfl
  have b3 : w2.cell? ⟨w1.heap.size, 3, none⟩ = some (.bool ff) := by rw [← hw2, World.cell?_alloc_at _ _ _ _ rfl]; rfl
  have hs2 : w2.heap.size = w1.heap.size + 1 := by rw [← hw2, World.size_alloc]
  rw [hw2] at HB2
  have HB3 := belO w2 (.cells #[.slice none 0 0, .slice none 0 0] 38)
  obtain ⟨w3, hw3⟩ : ∃ w3, w2.alloc (.cells #[.slice none 0 0, .slice none 0 0] 38) = w3 := ⟨_, rfl⟩
  have hrow : w3.heap[w2.heap.size]? = some (.cells #[.slice none 0 0, .slice none 0 0] 38 (0, 0)) := by rw [← hw3]; exact heap_alloc_new w2 _
  have hs3 : w3.heap.size = w2.heap.size + 1 := by rw [← hw3, World.size_alloc]
  rw [hw3] at HB3
  have P3 := Lib.hid (show PuBC w.heap.size w1.heap.size w2.heap.size (.slice fA fs.length fc) (.slice cA cs.length cc) (.string pp) (.string n) (.int .i64 d) (.bool ff) w3 from ⟨cellO (btO HB2 HB3) a0, cellO (btO HB2 HB3) a1, cellO HB3 b0, cellO HB3 b1, cellO HB3 b2, cellO HB3 b3, row_cell (j := 0) hrow rfl, row_cell (j := 1) hrow rfl⟩)
  have HB := Lib.hid (btO HB1 (btO HB2 HB3))
  have HR := Lib.hid hrow
  have HSZ := Lib.hid (show w.heap.size < w1.heap.size ∧ w1.heap.size < w2.heap.size ∧ w2.heap.size < w3.heap.size by omega)
  show Calls Tryz.prog 20 #[.agg #[.slice fA fs.length fc, .slice cA cs.length cc], .agg #[.string pp, .string n, .int .i64 d, .bool ff]] w _
  clear HB1 HB2 HB3 a0 a1 b0 b1 b2 b3 hrow hs1 hs2 hs3
  obtain ⟨e0, e1, f0, f1, f2, f3, r0, r1⟩ := P3.out
  have t0 := row_frz (j := 0) HR.out
  have t1 := row_frz (j := 1) HR.out
  go_enter Tryz.func20, Tryz.ntmps20
  go_wp2_with (first
    | (go_at_call 22; ((with_reducible refine (HE.out _ HB.out).mono ?_); rintro x w4 ⟨rfl, hb⟩; have M4 := Lib.hid (hb); clear hb e0 e1 f0 f1 f2 f3 r0 r1 t0 t1; obtain ⟨e0, e1, f0, f1, f2, f3, r0, r1⟩ := P3.out.below M4.out; have hr4 := (M4.out.block _ (lt_of_block HR.out)).trans HR.out; have t0 := row_frz (j := 0) hr4; have t1 := row_frz (j := 1) hr4; have R4 := Lib.hid hr4; clear hr4))
    | (go_at_call 57; ((with_reducible refine (HN.out _).mono ?_); rintro x w5 ⟨rfl, hb⟩; have M5 := Lib.hid (btO M4.out hb); clear hb e0 e1 f0 f1 f2 f3 r0 r1 t0 t1; obtain ⟨e0, e1, f0, f1, f2, f3, r0, r1⟩ := P3.out.below M5.out; have hr5 := (M5.out.block _ (lt_of_block HR.out)).trans HR.out; have t0 := row_frz (j := 0) hr5; have t1 := row_frz (j := 1) hr5; have R5 := Lib.hid hr5; clear hr5))
    | (go_at_call 58; ((with_reducible refine (HP.out _ (btO HB.out M5.out)).mono ?_); rintro x w6 ⟨rfl, hb⟩; have M6 := Lib.hid (btO M5.out hb); clear hb e0 e1 f0 f1 f2 f3 r0 r1 t0 t1; obtain ⟨e0, e1, f0, f1, f2, f3, r0, r1⟩ := P3.out.below M6.out; have hr6 := (M6.out.block _ (lt_of_block HR.out)).trans HR.out; have t0 := row_frz (j := 0) hr6; have t1 := row_frz (j := 1) hr6; have R6 := Lib.hid hr6; clear hr6)))
  refine bodyPost_ret (results_row_tmpO rfl _ _ w2.heap.size 38 _ (0, 0) _ (.int .i64 22) rfl rfl (heap_set2O R6.out _ _) Tryz.underlying38 (by kernel_rfl) (by kernel_rfl)) rfl ?_
  exact putO_nil (((HB.out.trans (M6.out.mono HB.out.size)).setCell (p := ⟨w2.heap.size, 0, none⟩) (by show w.heap.size ≤ w2.heap.size; have := HSZ.out; omega) _).setCell (p := ⟨w2.heap.size, 1, none⟩) (by show w.heap.size ≤ w2.heap.size; have := HSZ.out; omega) _)
set_option maxRecDepth 100000 in
set_option maxHeartbeats 6400000 in
theorem pchoose_ok (E : Ev) (pp n : ByteArray) (d : Int) (ff : Bool) (w : World) (hin : E.In w) (L : List Cx) (hl2 : E.fs.length ≤ 1000) (hE : ∀ W, Below w.heap.size w W → Calls Tryz.prog 22 #[E.val] W (IntRO 0 W)) (hN : ∀ W, Calls Tryz.prog 57 #[.agg #[.string pp, .string n, .int .i64 d, .bool ff]] W (BoolRO true W)) (hP : ∀ W, Below w.heap.size w W → Calls Tryz.prog 58 #[.slice E.cA E.cs.length E.cc, .agg #[.string pp, .string n, .int .i64 d, .bool ff], .func (.func 59) #[] #[]] W (PlcR 47 4 (rowsV cxC L) L.length W)) : Calls Tryz.prog 20 #[E.val, .agg #[.string pp, .string n, .int .i64 d, .bool ff]] w (PutO E.fs L 0 w) := by
  obtain ⟨iF, hiF, hzF, hsF, hbF⟩ := info_parts infoFx
  have HE := Lib.hid hE
  have HN := Lib.hid hN
  have HP := Lib.hid hP
  clear hE hN hP
  obtain ⟨fA, fs, fc, cA, cs, cc⟩ := E
  have HB1 := belO w (.cells #[.slice fA fs.length fc, .slice cA cs.length cc] 38)
  obtain ⟨w1, hw1⟩ : ∃ w1, w.alloc (.cells #[.slice fA fs.length fc, .slice cA cs.length cc] 38) = w1 := ⟨_, rfl⟩
  have a0 : w1.cell? ⟨w.heap.size, 0, none⟩ = some (.slice fA fs.length fc) := by rw [← hw1, World.cell?_alloc_at _ _ _ _ rfl]; rfl
  have a1 : w1.cell? ⟨w.heap.size, 1, none⟩ = some (.slice cA cs.length cc) := by rw [← hw1, World.cell?_alloc_at _ _ _ _ rfl]; rfl
  have hs1 : w1.heap.size = w.heap.size + 1 := by rw [← hw1, World.size_alloc]
  rw [hw1] at HB1
  have HB2 := belO w1 (.cells #[.string pp, .string n, .int .i64 d, .bool ff] 47)
  obtain ⟨w2, hw2⟩ : ∃ w2, w1.alloc (.cells #[.string pp, .string n, .int .i64 d, .bool ff] 47) = w2 := ⟨_, rfl⟩
  have b0 : w2.cell? ⟨w1.heap.size, 0, none⟩ = some (.string pp) := by rw [← hw2, World.cell?_alloc_at _ _ _ _ rfl]; rfl
  have b1 : w2.cell? ⟨w1.heap.size, 1, none⟩ = some (.string n) := by rw [← hw2, World.cell?_alloc_at _ _ _ _ rfl]; rfl
  have b2 : w2.cell? ⟨w1.heap.size, 2, none⟩ = some (.int .i64 d) := by rw [← hw2, World.cell?_alloc_at _ _ _ _ rfl]; rfl
  have b3 : w2.cell? ⟨w1.heap.size, 3, none⟩ = some (.bool ff) := by rw [← hw2, World.cell?_alloc_at _ _ _ _ rfl]; rfl
  have hs2 : w2.heap.size = w1.heap.size + 1 := by rw [← hw2, World.size_alloc]
  rw [hw2] at HB2
  have HB3 := belO w2 (.cells #[.slice none 0 0, .slice none 0 0] 38)
  obtain ⟨w3, hw3⟩ : ∃ w3, w2.alloc (.cells #[.slice none 0 0, .slice none 0 0] 38) = w3 := ⟨_, rfl⟩
  have hrow : w3.heap[w2.heap.size]? = some (.cells #[.slice none 0 0, .slice none 0 0] 38 (0, 0)) := by rw [← hw3]; exact heap_alloc_new w2 _
  have hs3 : w3.heap.size = w2.heap.size + 1 := by rw [← hw3, World.size_alloc]
  rw [hw3] at HB3
  have P3 := Lib.hid (show PuBC w.heap.size w1.heap.size w2.heap.size (.slice fA fs.length fc) (.slice cA cs.length cc) (.string pp) (.string n) (.int .i64 d) (.bool ff) w3 from ⟨cellO (btO HB2 HB3) a0, cellO (btO HB2 HB3) a1, cellO HB3 b0, cellO HB3 b1, cellO HB3 b2, cellO HB3 b3, row_cell (j := 0) hrow rfl, row_cell (j := 1) hrow rfl⟩)
  have HB := Lib.hid (btO HB1 (btO HB2 HB3))
  have HI := Lib.hid ((hin.below HB1).below (btO HB2 HB3))
  have HR := Lib.hid hrow
  have HSZ := Lib.hid (show w.heap.size < w1.heap.size ∧ w1.heap.size < w2.heap.size ∧ w2.heap.size < w3.heap.size by omega)
  show Calls Tryz.prog 20 #[.agg #[.slice fA fs.length fc, .slice cA cs.length cc], .agg #[.string pp, .string n, .int .i64 d, .bool ff]] w _
  clear HB1 HB2 HB3 a0 a1 b0 b1 b2 b3 hrow hs1 hs2 hs3
  obtain ⟨e0, e1, f0, f1, f2, f3, r0, r1⟩ := P3.out
  have t0 := row_frz (j := 0) HR.out
  have t1 := row_frz (j := 1) HR.out
  replace hl2 : fs.length ≤ 1000 := hl2
  clear hin
  go_enter Tryz.func20, Tryz.ntmps20
  go_wp2_with (first
    | (go_at_call 22; ((with_reducible refine (HE.out _ HB.out).mono ?_); rintro x w4 ⟨rfl, hb⟩; have M4 := Lib.hid (hb); clear hb e0 e1 f0 f1 f2 f3 r0 r1 t0 t1; obtain ⟨e0, e1, f0, f1, f2, f3, r0, r1⟩ := P3.out.below M4.out; have hr4 := (M4.out.block _ (lt_of_block HR.out)).trans HR.out; have t0 := row_frz (j := 0) hr4; have t1 := row_frz (j := 1) hr4; have R4 := Lib.hid hr4; clear hr4))
    | (go_at_call 57; ((with_reducible refine (HN.out _).mono ?_); rintro x w5 ⟨rfl, hb⟩; have M5 := Lib.hid (btO M4.out hb); clear hb e0 e1 f0 f1 f2 f3 r0 r1 t0 t1; obtain ⟨e0, e1, f0, f1, f2, f3, r0, r1⟩ := P3.out.below M5.out; have hr5 := (M5.out.block _ (lt_of_block HR.out)).trans HR.out; have t0 := row_frz (j := 0) hr5; have t1 := row_frz (j := 1) hr5; have R5 := Lib.hid hr5; clear hr5))
    | (go_at_call 58; ((with_reducible refine (HP.out _ (btO HB.out M5.out)).mono ?_); rintro x w7 ⟨u, rfl, hown, hb⟩; obtain ⟨A7, c7, rfl, -, -, -, -, -, -⟩ := RowsR.of_own cxC_len (by decide) hown; have O7 := Lib.hid hown; have M7 := Lib.hid (btO M5.out hb); clear hown hb e0 e1 f0 f1 f2 f3 r0 r1 t0 t1; obtain ⟨e0, e1, f0, f1, f2, f3, r0, r1⟩ := P3.out.below M7.out))
    | (at_builtin; refine wpList_appL (base := w7.heap.size) (xs := ([] : List Fx)) fxC_len (by decide) fxC_one (World.ownsRow_nil _ _ _ _) fA fs fs.length fc rfl (HI.out.f.below M7.out) rfl _ _ 35 rfl iF _ 40 Tryz.underlying35 hiF hzF hsF hbF rfl rfl rfl (by unfold maxLen; omega) (by omega) (Nat.le_refl _) ?_; intro v' w8 hown hb; rw [Nat.zero_add, List.nil_append] at hown; obtain ⟨A8, c8, rfl, -, -, -, -, -, -⟩ := RowsR.of_own fxC_len (by decide) hown; have O8 := Lib.hid hown; have N8 := Lib.hid hb; have M8 := Lib.hid (btO M7.out hb); clear hown hb e0 e1 f0 f1 f2 f3 r0 r1; obtain ⟨e0, e1, f0, f1, f2, f3, r0, r1⟩ := P3.out.below M8.out; have hr8 := (M8.out.block _ (lt_of_block HR.out)).trans HR.out; have t0 := row_frz (j := 0) hr8; have t1 := row_frz (j := 1) hr8; have R8 := Lib.hid hr8; clear hr8))
  refine bodyPost_ret (results_row_tmpO rfl _ _ w2.heap.size 38 _ (0, 0) _ (.int .i64 0) rfl rfl (heap_set2O R8.out _ _) Tryz.underlying38 (by kernel_rfl) (by kernel_rfl)) rfl ?_
  have hs := HSZ.out
  have h6 := M5.out.size
  have h7 := M7.out.size
  have hb := HB.out.size
  refine ⟨_, _, rfl, ?_, ?_, ?_⟩
  · exact own_lowO (own_setO (own_setO O8.out (p := ⟨w2.heap.size, 0, none⟩) (by show w2.heap.size < w7.heap.size; omega) _) (p := ⟨w2.heap.size, 1, none⟩) (by show w2.heap.size < w7.heap.size; omega) _) (by omega)
  · exact own_lowO (own_setO (own_setO (own_belO O7.out N8.out) (p := ⟨w2.heap.size, 0, none⟩) (by show w2.heap.size < w5.heap.size; omega) _) (p := ⟨w2.heap.size, 1, none⟩) (by show w2.heap.size < w5.heap.size; omega) _) (by omega)
  · exact ((HB.out.trans (M8.out.mono HB.out.size)).setCell (p := ⟨w2.heap.size, 0, none⟩) (by show w.heap.size ≤ w2.heap.size; omega) _).setCell (p := ⟨w2.heap.size, 1, none⟩) (by show w.heap.size ≤ w2.heap.size; omega) _
theorem pchoose_any (E : Ev) (pp n : ByteArray) (d : Int) (ff : Bool) (w : World) (hin : E.In w) (hvr : VarR w) (hsf : ∀ f ∈ E.fs, f.2.2.size ≤ 1048576) (hcap : CapR E.cA E.cs.length E.cc) :
    Calls Tryz.prog 20 #[E.val, .agg #[.string pp, .string n, .int .i64 d, .bool ff]] w (PutO (choFL E.fs E.cs (pp, n, d, ff)) (choCL E.fs E.cs (pp, n, d, ff)) (choE E.fs E.cs (pp, n, d, ff)) w) := by
  have hE : ∀ W, Below w.heap.size w W → Calls Tryz.prog 22 #[E.val] W (IntRO (envE E.fs E.cs) W) := fun W hW => pcheckEnv_any E W (hin.below hW) (hvr.below hW) hsf
  have hN : ∀ W, Calls Tryz.prog 57 #[.agg #[.string pp, .string n, .int .i64 d, .bool ff]] W (BoolRO (nameO pp.data.toList && nameO n.data.toList && dayO d) W) := fun W => isChoice_any pp n d ff W
  have bad : ∀ e, choE E.fs E.cs (pp, n, d, ff) = e → ¬ e = 0 → Calls Tryz.prog 20 #[E.val, .agg #[.string pp, .string n, .int .i64 d, .bool ff]] w (PutO [] [] e w) → Calls Tryz.prog 20 #[E.val, .agg #[.string pp, .string n, .int .i64 d, .bool ff]] w (PutO (choFL E.fs E.cs (pp, n, d, ff)) (choCL E.fs E.cs (pp, n, d, ff)) (choE E.fs E.cs (pp, n, d, ff)) w) := fun e h1 h2 h => by
    unfold choFL choCL
    rw [h1, if_neg h2, if_neg h2]
    exact h
  have hdef : choE E.fs E.cs (pp, n, d, ff) = if envE E.fs E.cs ≠ 0 then envE E.fs E.cs else if (nameO pp.data.toList && nameO n.data.toList && dayO d) = false then 2 else if 1000 < (insL Cx.key (pp, n, d, ff) E.cs).length then 22 else 0 := rfl
  by_cases h1 : envE E.fs E.cs = 0
  · rw [if_neg (by simp [h1])] at hdef
    rw [h1] at hE
    cases hB : (nameO pp.data.toList && nameO n.data.toList && dayO d)
    · rw [hB, if_pos rfl] at hdef
      rw [hB] at hN
      exact bad 2 hdef (by decide) (pchoose_arg E pp n d ff w hE hN)
    · rw [hB, if_neg (by decide)] at hdef
      rw [hB] at hN
      obtain ⟨l1, l2, o1, o2⟩ := envE_zero h1
      have hP := fun W (hW : Below w.heap.size w W) => placedC_any pp n d ff E.cA E.cc E.cs W (hin.c.below hW) hcap l2 (inc_of o2).1
      by_cases h3 : 1000 < (insL Cx.key (pp, n, d, ff) E.cs).length
      · rw [if_pos h3] at hdef
        refine bad 22 hdef (by decide) (pchoose_full E pp n d ff w hE hN fun W hW => (hP W hW).mono ?_)
        rintro e w' (⟨h, -⟩ | ⟨-, h⟩)
        · omega
        · exact h
      · rw [if_neg h3] at hdef
        unfold choFL choCL
        rw [hdef, if_pos rfl, if_pos rfl]
        refine pchoose_ok E pp n d ff w hin _ l1 hE hN fun W hW => (hP W hW).mono ?_
        rintro e w' (⟨-, h⟩ | ⟨h, -⟩)
        · exact h
        · exact absurd h h3
  · rw [if_pos h1] at hdef
    exact bad _ hdef h1 (pchoose_env E pp n d ff w _ hE h1)
end Go.Proofs.YtbfimfjhdbpenaaGreatDoor
/- Layer 8: what Put and Choose leave, as something known. -/
namespace Go.Proofs.YtbfimfjhdbpenaaGreatDoor
open Go Go.RowKit Go.BigFrame
theorem putFE_cases {fs : List Fx} {cs : List Cx} {f : Fx} (h : putFE fs cs f = 0) : envE fs cs = 0 ∧ nameO f.1.data.toList = true ∧ dayO f.2.1 = true ∧ chkR f.2.2.data.toList = 0 ∧ (insL Fx.key f fs).length ≤ 1000 := by
  have hd : putFE fs cs f = if envE fs cs ≠ 0 then envE fs cs else if (nameO f.1.data.toList && dayO f.2.1) = false then 2 else if chkR f.2.2.data.toList ≠ 0 then chkR f.2.2.data.toList else if 1000 < (insL Fx.key f fs).length then 22 else 0 := rfl
  rw [hd] at h
  by_cases h1 : envE fs cs = 0
  · rw [if_neg (by simp [h1])] at h
    cases hB : (nameO f.1.data.toList && dayO f.2.1)
    · rw [hB, if_pos rfl] at h; cases h
    · rw [hB, if_neg (by decide)] at h
      rw [Bool.and_eq_true] at hB
      by_cases h2 : chkR f.2.2.data.toList = 0
      · rw [if_neg (by simp [h2])] at h
        by_cases h3 : 1000 < (insL Fx.key f fs).length
        · rw [if_pos h3] at h; cases h
        · exact ⟨h1, hB.1, hB.2, h2, by omega⟩
      · rw [if_pos h2] at h; exact absurd h h2
  · rw [if_pos h1] at h; exact absurd h h1
theorem choE_cases {fs : List Fx} {cs : List Cx} {c : Cx} (h : choE fs cs c = 0) : envE fs cs = 0 ∧ nameO c.1.data.toList = true ∧ nameO c.2.1.data.toList = true ∧ dayO c.2.2.1 = true ∧ (insL Cx.key c cs).length ≤ 1000 := by
  unfold choE at h
  by_cases h1 : envE fs cs = 0
  · rw [if_neg (by simp [h1])] at h
    cases hB : (nameO c.1.data.toList && nameO c.2.1.data.toList && dayO c.2.2.1)
    · rw [hB, if_pos rfl] at h; cases h
    · rw [hB, if_neg (by decide)] at h
      rw [Bool.and_eq_true, Bool.and_eq_true] at hB
      by_cases h3 : 1000 < (insL Cx.key c cs).length
      · rw [if_pos h3] at h; cases h
      · exact ⟨h1, hB.1.1, hB.1.2, hB.2, by omega⟩
  · rw [if_pos h1] at h; exact absurd h h1
theorem putFL_len (fs : List Fx) (cs : List Cx) (f : Fx) : (putFL fs cs f).length ≤ 1000 := by
  unfold putFL
  split
  · next h => exact (putFE_cases h).2.2.2.2
  · simp
theorem putFC_len (fs : List Fx) (cs : List Cx) (f : Fx) : (putFC fs cs f).length ≤ 1000 := by
  unfold putFC
  split
  · next h => exact (envE_zero (putFE_cases h).1).2.1
  · simp
theorem choFL_len (fs : List Fx) (cs : List Cx) (c : Cx) : (choFL fs cs c).length ≤ 1000 := by
  unfold choFL
  split
  · next h => exact (envE_zero (choE_cases h).1).1
  · simp
theorem choCL_len (fs : List Fx) (cs : List Cx) (c : Cx) : (choCL fs cs c).length ≤ 1000 := by
  unfold choCL
  split
  · next h => exact (choE_cases h).2.2.2.2
  · simp
theorem putFL_mem {fs : List Fx} {cs : List Cx} {f z : Fx} (h : z ∈ putFL fs cs f) : z = f ∨ z ∈ fs := by
  unfold putFL at h
  split at h
  · next g =>
    rcases (mem_insL (inc_of (envE_zero (putFE_cases g).1).2.2.1).1 z).1 h with e | ⟨e, -⟩
    · exact .inl e
    · exact .inr e
  · cases h
theorem putFC_mem {fs : List Fx} {cs : List Cx} {f : Fx} {z : Cx} (h : z ∈ putFC fs cs f) : z ∈ cs := by
  unfold putFC at h
  split at h
  · exact h
  · cases h
theorem choFL_mem {fs : List Fx} {cs : List Cx} {c : Cx} {z : Fx} (h : z ∈ choFL fs cs c) : z ∈ fs := by
  unfold choFL at h
  split at h
  · exact h
  · cases h
theorem choCL_mem {fs : List Fx} {cs : List Cx} {c z : Cx} (h : z ∈ choCL fs cs c) : z = c ∨ z ∈ cs := by
  unfold choCL at h
  split at h
  · next g =>
    rcases (mem_insL (inc_of (envE_zero (choE_cases g).1).2.2.2).1 z).1 h with e | ⟨e, -⟩
    · exact .inl e
    · exact .inr e
  · cases h
theorem PutO.ev {L : List Fx} {C : List Cx} {e : Int} {w w' : World} {x : Ending} (h : PutO L C e w x w') (l1 : L.length ≤ 1000) (l2 : C.length ≤ 1000) (b1 : ∀ f ∈ L, f.1.size ≤ 140737488351232 ∧ f.2.2.size ≤ 140737488351232) (b2 : ∀ c ∈ C, c.1.size ≤ 140737488351232 ∧ c.2.1.size ≤ 140737488351232) :
    ∃ A c A2 c2, x = .returned (.tuple #[.agg #[.slice A L.length c, .slice A2 C.length c2], .int .i64 e]) ∧ Ev.In w' ⟨A, L, c, A2, C, c2⟩ ∧ CapR A L.length c ∧ CapR A2 C.length c2 ∧
      w'.ownsRow w.heap.size 44 3 (.slice A L.length c) L.length (rowsV fxC L) ∧ w'.ownsRow w.heap.size 47 4 (.slice A2 C.length c2) C.length (rowsV cxC C) ∧ Below w.heap.size w w' := by
  obtain ⟨v1, v2, rfl, h1, h2, hb⟩ := h
  obtain ⟨A, c, rfl, -, r1, n1, -, k1, m1⟩ := RowsR.of_own fxC_len (by decide) h1
  obtain ⟨A2, c2, rfl, -, r2, n2, -, k2, m2⟩ := RowsR.of_own cxC_len (by decide) h2
  exact ⟨A, c, A2, c2, rfl, ⟨r1, r2, by show L.length ≤ _; omega, by show C.length ≤ _; omega, b1, b2⟩, ⟨k1, m1, n1⟩, ⟨k2, m2, n2⟩, h1, h2, hb⟩
end Go.Proofs.YtbfimfjhdbpenaaGreatDoor

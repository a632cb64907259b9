/- Layer 7: walks' helpers: numbers in memory; the reference's walks: Amount, SameInts, Sum. -/
import Derived.Test.YtalnfbgaiegicaaProg
import Derived.Test.YtalnfbgaiegicaaCalA
import Derived.Test.YtalnfbgaiegicaaMoM
import Derived.Test.YtalnfbgaiegicaaMoN
import Derived.OwnWalk
import Derived.Laws.OwnMore
import Derived.Laws.AppendOwn
import Derived.BigQuiet
namespace Go.Proofs.Ytalnfbgaiegicaa
open Go Go.RowKit

theorem ret_intM {k : IntKind} {a b : Int} (h : a = b) : Ending.returned (.int k a) = .returned (.int k b) := by rw [h]
theorem ret_boolM {a b : Bool} (h : a = b) : Ending.returned (.bool a) = .returned (.bool b) := by rw [h]
theorem belM (w : World) (o : Obj) : Below w.heap.size w (w.alloc o) := (Below.refl _ w).alloc (Nat.le_refl _) _
theorem btM {a b c : World} (h : Below a.heap.size a b) (k : Below b.heap.size b c) : Below a.heap.size a c := h.trans (k.mono h.size)
theorem dnM {B : Nat} {a w : World} (h : Below B a w) (n : Nat) : Below B a (w.drewN n) := ⟨h.os, h.tape, h.output, h.size, h.block⟩
theorem cellM {a b : World} (h : Below a.heap.size a b) {r k : Nat} {v : Value} (hc : a.cell? ⟨r, k, none⟩ = some v) : b.cell? ⟨r, k, none⟩ = some v :=
  (h.cell (p := ⟨r, k, none⟩) (World.block_lt_of_cell? a _ hc)).trans hc
theorem box_cellM (w : World) (xs : Array Value) (t : TypeId) (k : Nat) {v : Value} (h : xs[k]? = some v) : (w.alloc (.cells xs t)).cell? ⟨w.heap.size, k, none⟩ = some v := by
  rw [World.cell?_alloc_at _ _ _ _ rfl]; exact h
def encM (x : Int) : Value := .int .i64 x
theorem infoM : (Try.prog.info? 3).map (fun i => (i.zero, i.size, i.bytes)) = some (some (.int .i64 0), 1, 8) := by kernel_rfl
theorem own_belM {w w' : World} {base : Nat} {e : TypeId} {size : Nat} {v : Value} {n : Nat} {xs : List Value} (h : w.ownsRow base e size v n xs) (b : Below w.heap.size w w') : w'.ownsRow base e size v n xs := by
  refine ⟨h.1, ?_⟩
  rcases h.2 with h0 | ⟨g, cap, cur, hv, hg, hh, r⟩
  · exact .inl h0
  · exact .inr ⟨g, cap, cur, hv, hg, (b.block _ (lt_of_block hh)).trans hh, r⟩
/-- What is own reads so. -/
theorem of_ownM {w : World} {base n : Nat} {v : Value} {xs : List Int} (h : w.ownsRow base 3 1 v n (xs.map encM)) : ∃ A c, v = .slice A n c ∧ n = xs.length ∧ HsA w A xs ∧ (A = none → c = 0) ∧ n ≤ c ∧ c ≤ maxLen := by
  have hl : n = xs.length := by have := h.1; simpa using this.symm
  rcases h.2 with ⟨hv, hn⟩ | ⟨g, cap, cur, hv, hb, hh, hn, hm, _⟩
  · refine ⟨none, 0, by rw [hv, hn], hl, .inl (List.eq_nil_of_length_eq_zero (by omega)), fun _ => rfl, by omega, by unfold maxLen; omega⟩
  · refine ⟨some ⟨g, 0, none⟩, cap, hv, hl, .inr ⟨g, 0, rfl, lt_of_block hh, fun j hj => ?_⟩, fun h => (by cases h), hn, hm⟩
    subst hv
    have := h.cells (g := g) rfl j (encM (xs.getD j 0)) (by rw [List.getElem?_map, List.getElem?_eq_getElem hj, List.getD_eq_getElem?_getD, List.getElem?_eq_getElem hj]; rfl)
    have hadd : (⟨g, 0, none⟩ : Addr).add j = ⟨g, 0 + j, none⟩ := by unfold Addr.add; split <;> simp_all
    rw [hadd] at this; exact this
/-- One element appended to a row of the call's own: the element has just been laid in a block of one cell. -/
theorem wpList_appM {P : Program} {ops : Array Oper} {rest : List Oper} {o : Oper} {a : Act} {Q : Exit → Act → World → Prop} {w : World} {base : Nat} {e : TypeId} {v : Value} {n : Nat} {xs : List Value} (hown : w.ownsRow base e 1 v n xs) (x : Value) (hgd : o.guard = none) (s y : Operand) (t : TypeId)
    (ho : o.op = .call { callee := .builtin .append, args := #[s, y], argTypes := #[t, t] })
    (i : TypeInfo) (z : Value) (bytes : Nat) (ht : P.underlying t = some (.slice e)) (hi : P.info? e = some i) (hz : i.zero = some z)
    (hsize : i.size = 1) (hby : i.bytes = bytes) (hzs : z.cells.size = 1)
    (hs : a.eval s = v) (hx : a.eval y = .slice (some ⟨w.heap.size, 0, none⟩) 1 1) (h1 : x.oneCell' = true) (h63 : n + 1 ≤ maxLen) (hbytes : (n + 1) * bytes ≤ 140737488355328) (hbase : base ≤ w.heap.size)
    (h : ∀ v' w', w'.ownsRow base e 1 v' (n + 1) (xs ++ [x]) → Below base w w' → wpList P ops Q rest (a.put o.dst v') w') : wpList P ops Q (o :: rest) a (w.alloc (.cells #[x] e)) := by
  refine wpList_append_own (w.alloc (.cells #[x] e)) hgd s y t ho base e i z 1 bytes ht hi hz hsize hby hzs (by decide) v n xs hs (hown.alloc _) ⟨w.heap.size, 0, none⟩ 1 1 [x] hx rfl ?_ ?_ h63 hbytes (by simp; omega) ?_
  · intro j u hj
    match j, hj with
    | 0, hj =>
      obtain rfl : x = u := by simpa using hj
      simp [Addr.add]
  · intro u hu
    obtain rfl : u = x := by simpa using hu
    exact h1
  · intro v' w' h2 h3 _
    exact h v' w' h2 (((Below.refl _ _).alloc hbase _).grown h3 (by simp; omega) fun k hk => (hown.lt k hk).1)
theorem own_setM {w : World} {base e g n cap : Nat} {os : List Int} (h : w.ownsRow base e 1 (.slice (some ⟨g, 0, none⟩) n cap) n (os.map encM)) (j : Nat) (z : Int) :
    (w.setCell ⟨g, j, none⟩ (.int .i64 z)).ownsRow base e 1 (.slice (some ⟨g, 0, none⟩) n cap) n ((os.set j z).map encM) := by
  have h1 := (h.stored j (.int .i64 z)).1
  have e1 : (os.set j z).map encM = (os.map encM).set j (.int .i64 z) := by rw [List.map_set]; rfl
  rw [e1]; exact h1
theorem own_cellM {w : World} {base e g n cap : Nat} {os : List Int} (h : w.ownsRow base e 1 (.slice (some ⟨g, 0, none⟩) n cap) n (os.map encM)) (j : Nat) (hj : j < os.length) : w.cell? ⟨g, j, none⟩ = some (.int .i64 (os.getD j 0)) := by
  have hl : os.length = n := by have := h.1; simpa using this
  rw [h.cellAt j (by omega), List.getElem?_map, List.getElem?_eq_getElem hj]
  simp [List.getD_eq_getElem?_getD, hj, encM]
theorem zerosM (n : Nat) : (madeCells (Value.int .i64 0).cells (n * 1)).toList = (List.replicate n 0).map encM := by
  rw [Nat.mul_one]
  show (madeCells #[Value.int .i64 0] _).toList = _
  rw [toList_madeCells_one]; simp [encM]
theorem ext_toM {xs ys : List Int} (hl : xs.length = ys.length) (h : ∀ j, j < xs.length → xs.getD j 0 = ys.getD j 0) : xs = ys := by
  refine List.ext_getElem hl fun j h1 h2 => ?_
  have := h j h1
  rw [List.getD_eq_getElem?_getD, List.getD_eq_getElem?_getD, List.getElem?_eq_getElem h1, List.getElem?_eq_getElem h2] at this
  exact this
set_option maxRecDepth 100000 in
set_option maxHeartbeats 1600000 in
theorem sameInts_anyM (A B : Option Addr) (c c' : Nat) (xs ys : List Int) (r : Bool) (hr : decide (xs = ys) = r) (hl : xs.length ≤ 1000000) (w : World) (hA : HsA w A xs) (hB : HsA w B ys) :
    Calls Try.prog 8 #[.slice A xs.length c, .slice B ys.length c'] w fun e w' => e = .returned (.bool r) ∧ Below w.heap.size w w' := by
  by_cases hlen : xs.length = ys.length
  · have HE : Hid (r = true ↔ ∀ j, j < xs.length → xs.getD j 0 = ys.getD j 0) := by
      show _ ↔ _
      rw [← hr, decide_eq_true_iff]
      exact ⟨fun h j _ => by rw [h], fun h => ext_toM hlen h⟩
    rw [← hlen]
    have HA := Lib.hid hA
    have HB := Lib.hid hB
    have HL := Lib.hid hlen
    obtain ⟨N, hN⟩ : ∃ N, xs.length = N := ⟨_, rfl⟩
    rw [hN] at hl HE ⊢
    have HN := Lib.hid hN
    clear hA hB hr hlen hN
    go_enter Try.func8, Try.ntmps8
    go_wp2
    go_loopw [5] (fun i wr => ∃ k : Nat, k ≤ N ∧ i = .int .i64 k ∧ Hid (∀ j, j < k → xs.getD j 0 = ys.getD j 0) ∧ Hid (Below w.heap.size w wr)) (fun i _ => N - (intOf i).toNat)
    case atStart => exact ⟨0, by omega, rfl, fun j h => by omega, Below.refl _ _⟩
    case round =>
      obtain ⟨k, hk, rfl, HI, HW⟩ := hrel
      by_cases hlt : k < N
      · obtain ⟨b, o, rfl, -, hcell⟩ := (HA.out.below HW.out).get (show k < xs.length by rw [HN.out]; exact hlt)
        obtain ⟨b', o', rfl, -, hcell'⟩ := (HB.out.below HW.out).get (show k < ys.length by rw [← HL.out, HN.out]; exact hlt)
        have d0 := hcell k (by rw [HN.out]; exact hlt)
        have d1 := hcell' k (by rw [← HL.out, HN.out]; exact hlt)
        have hk1 : (k : Int) < (N : Int) := by omega
        have HX : Hid (xs.getD k 0 = ys.getD k 0 → ∀ j, j < k + 1 → xs.getD j 0 = ys.getD j 0) := fun g j hj => by
          rcases Nat.lt_or_ge j k with q | q
          · exact HI.out j q
          · obtain rfl : j = k := by omega
            exact g
        have HY : Hid (xs.getD k 0 ≠ ys.getD k 0 → r = false) := fun g => by
          cases r
          · rfl
          · exact absurd (HE.out.1 rfl k hlt) g
        clear hcell hcell' HA HB HE HI
        generalize xs.getD k 0 = x at *
        generalize ys.getD k 0 = y at *
        by_cases g1 : x = y
        · have HX2 := Lib.hid (HX.out g1)
          subst g1
          clear HX HY
          go_wp2
          go_quiet (fail)
          have HW2 := Lib.hid (dnM HW.out nq)
          go_wp2
          go_round
          case rel => exact ⟨k + 1, by omega, by go_num, HX2, HW2⟩
          case measure => simp [intOf]; omega
        · obtain rfl := HY.out g1
          have g2 : (x != y) = true := by rw [bne_iff_ne]; exact g1
          have g3 : (x == y) = false := by rw [beq_eq_false_iff_ne]; exact g1
          clear HX HY g1
          go_wp2
          go_quiet (fail)
          have HW2 := Lib.hid (dnM HW.out nq)
          go_wp2
          go_ret
          exact ⟨rfl, HW2.out⟩
      · obtain rfl : k = N := by omega
        have hrt : r = true := HE.out.2 HI.out
        subst hrt
        clear HE HI
        go_wp2
        go_ret
        exact ⟨rfl, HW.out⟩
  · have hrf : r = false := by rw [← hr, decide_eq_false_iff_not]; exact fun h => hlen (by rw [h])
    have hn : ((xs.length : Int) != (ys.length : Int)) = true := by rw [bne_iff_ne]; omega
    have hn2 : ((xs.length : Int) == (ys.length : Int)) = false := by rw [beq_eq_false_iff_ne]; omega
    subst hrf
    clear hr hA hB hlen
    go_enter Try.func8, Try.ntmps8
    go_wp2
    go_ret
    exact ⟨rfl, Below.refl _ _⟩
set_option maxHeartbeats 400000 in
theorem ramount_any (n : Int) (b : Bool) (h : amB n = b) (w : World) :
    Calls Try.prog 12 #[.int .i64 n] w fun e w' => e = .returned (.bool b) ∧ w = w' := by
  unfold amB at h
  by_cases h0 : -1125899906842624 ≤ n
  · rw [decide_eq_true h0, Bool.true_and] at h
    go_enter Try.func12, Try.ntmps12
    go_wp2
    go_ret
    exact ⟨ret_boolM (by rw [← h]), rfl⟩
  · rw [decide_eq_false h0, Bool.false_and] at h
    have h1 : n < -1125899906842624 := by omega
    subst h
    go_enter Try.func12, Try.ntmps12
    go_wp2
    go_ret
    exact ⟨ret_boolM (by simp), rfl⟩
/-- The sum of amounts. -/
def suM (xs : List Int) : Int := smF (fun i => xs.getD i 0) xs.length
def suE (xs : List Int) : Int := if 5000 < xs.length then 4 else if xs.all amB then (if amB (suM xs) then 0 else 14) else 2
def suV (xs : List Int) : Int := if suE xs = 0 then suM xs else 0
theorem all_am {xs : List Int} {k : Nat} (hk : k < xs.length) (h : amB (xs.getD k 0) = false) : xs.all amB = false := by
  rw [Bool.eq_false_iff]
  intro g
  have := List.all_eq_true.1 g (xs.getD k 0) (by rw [List.getD_eq_getElem?_getD, List.getElem?_eq_getElem hk]; exact List.getElem_mem hk)
  rw [h] at this
  cases this
theorem all_am2 {xs : List Int} (h : ∀ k, k < xs.length → amB (xs.getD k 0) = true) : xs.all amB = true := by
  rw [List.all_eq_true]
  intro x hx
  obtain ⟨k, hk, rfl⟩ := List.getElem_of_mem hx
  have := h k hk
  rwa [List.getD_eq_getElem?_getD, List.getElem?_eq_getElem hk] at this
set_option maxRecDepth 100000 in
set_option maxHeartbeats 1600000 in
theorem rsum7_go (A : Option Addr) (c : Nat) (xs : List Int) (N : Nat) (hl : xs.length = N) (hN : N ≤ 5000) (F : Nat → Int) (hF : ∀ i, xs.getD i 0 = F i) (V E : Int) (w : World) (hA : HsA w A xs)
    (h2 : ∀ k, k < N → amB (F k) = false → V = 0 ∧ E = 2) (h14 : (∀ k, k < N → amB (F k) = true) → amB (smF F N) = false → V = 0 ∧ E = 14) (h0 : (∀ k, k < N → amB (F k) = true) → amB (smF F N) = true → V = smF F N ∧ E = 0) :
    Calls Try.prog 7 #[.slice A N c] w fun e w' => e = .returned (.tuple #[.int .i64 V, .int .i64 E]) ∧ w = w' := by
  have hl' : (N : Int) ≤ 5000 := by omega
  have HA := Lib.hid hA
  have HL := Lib.hid hl
  have HF := Lib.hid hF
  have H2 := Lib.hid h2
  have H14 := Lib.hid h14
  have H0 := Lib.hid h0
  have HS : Hid (∀ k, smF F (k + 1) = smF F k + F k) := fun k => rfl
  have HZ : Hid (smF F 0 = 0) := rfl
  have HQ := Lib.hid (fun x b h => ramount_any x b h)
  clear hA hl hF h2 h14 h0
  go_enter Try.func7, Try.ntmps7
  go_wp2
  go_loop [4] (fun i => ∃ k : Nat, k ≤ N ∧ i = .int .i64 k ∧ Hid (∀ j, j < k → amB (F j) = true)) (fun i => N - (intOf i).toNat)
  case atStart => exact ⟨0, by omega, rfl, fun j h => by omega⟩
  case round =>
    obtain ⟨k, hk, rfl, HI⟩ := hrel
    by_cases hlt : k < N
    · obtain ⟨b, o, rfl, -, hcell⟩ := HA.out.get (show k < xs.length by rw [HL.out]; exact hlt)
      have d0 := hcell k (by rw [HL.out]; exact hlt)
      rw [HF.out] at d0
      have hk1 : (k : Int) < (N : Int) := by omega
      cases hb : amB (F k)
      · obtain ⟨rfl, rfl⟩ := H2.out k hlt hb
        have HC := Lib.hid (HQ.out _ false hb)
        clear hcell hb HI H2 H14 H0 HS
        generalize F k = x at *
        go_wp2_with (go_at_call 12; ((with_reducible refine (HC.out _).mono ?_); rintro e w1 ⟨rfl, rfl⟩))
        go_ret2
        exact ⟨rfl, rfl⟩
      · have HI2 : Hid (∀ j, j < k + 1 → amB (F j) = true) := fun j hj => by
          rcases Nat.lt_or_ge j k with g | g
          · exact HI.out j g
          · obtain rfl : j = k := by omega
            exact hb
        have HC := Lib.hid (HQ.out _ true hb)
        clear hcell hb HI H2 H14 H0 HS HF
        generalize F k = x at *
        go_wp2_with (go_at_call 12; ((with_reducible refine (HC.out _).mono ?_); rintro e w1 ⟨rfl, rfl⟩))
        go_round
        case rel => exact ⟨k + 1, by omega, by go_num, HI2⟩
        case measure => simp [intOf]; omega
    · obtain rfl : k = N := by omega
      have HB : Hid (∀ j, j ≤ k → -5629499534213120000 ≤ smF F j ∧ smF F j ≤ 5629499534213120000) := fun j hj => by
        have := smF_bd (f := F) (n := j) (B := 1125899906842624) (by omega) (fun i hi => (amB_iff _).1 (HI.out i (by omega)))
        omega
      clear H2
      go_wp2
      go_loop [5, 6] (fun s i => ∃ (j : Nat) (S : Int), j ≤ k ∧ i = .int .i64 j ∧ s = .int .i64 S ∧ Hid (S = smF F j)) (fun _ i => k - (intOf i).toNat)
      case atStart => exact ⟨0, _, by omega, rfl, rfl, HZ.out.symm⟩
      case round =>
        obtain ⟨j, S, hj, rfl, rfl, HSS⟩ := hrel
        by_cases hlt2 : j < k
        · obtain ⟨b, o, rfl, -, hcell⟩ := HA.out.get (show j < xs.length by rw [HL.out]; exact hlt2)
          have d0 := hcell j (by rw [HL.out]; exact hlt2)
          rw [HF.out] at d0
          have hk1 : (j : Int) < (k : Int) := by omega
          have b1 := HB.out (j + 1) (by omega)
          rw [HS.out, ← HSS.out] at b1
          have HS1 : Hid (S + F j = smF F (j + 1)) := by show _ = _; rw [HS.out, HSS.out]
          obtain ⟨b2, b3⟩ := b1
          clear hcell H14 H0 HS HF HB
          generalize F j = x at *
          go_wp2
          go_round
          case rel => exact ⟨j + 1, _, by omega, by go_num, rfl, HS1⟩
          case measure => simp [intOf]; omega
        · obtain rfl : j = k := by omega
          have HE := Lib.hid HSS.out
          cases hb : amB S
          · obtain ⟨rfl, rfl⟩ := H14.out (fun i hi => HI.out i hi) (by rw [← HE.out]; exact hb)
            have HC := Lib.hid (HQ.out _ false hb)
            clear hb H14 H0 HB HI HS HF HE HSS HZ
            go_wp2_with (go_at_call 12; ((with_reducible refine (HC.out _).mono ?_); rintro e w1 ⟨rfl, rfl⟩))
            go_ret2
            exact ⟨rfl, rfl⟩
          · obtain ⟨hv, rfl⟩ := H0.out (fun i hi => HI.out i hi) (by rw [← HE.out]; exact hb)
            rw [← HE.out] at hv
            subst hv
            have HC := Lib.hid (HQ.out _ true hb)
            clear hb H14 H0 HB HI HS HF HE HSS HZ
            go_wp2_with (go_at_call 12; ((with_reducible refine (HC.out _).mono ?_); rintro e w1 ⟨rfl, rfl⟩))
            go_ret2
            exact ⟨rfl, rfl⟩
set_option maxRecDepth 100000 in
set_option maxHeartbeats 1600000 in
theorem rsum7_any (A : Option Addr) (c : Nat) (xs : List Int) (hx : xs.length ≤ 9223372036854775807) (w : World) (hA : HsA w A xs) :
    Calls Try.prog 7 #[.slice A xs.length c] w fun e w' => e = .returned (.tuple #[.int .i64 (suV xs), .int .i64 (suE xs)]) ∧ w = w' := by
  by_cases hl : 5000 < xs.length
  · have e1 : suE xs = 4 := by unfold suE; rw [if_pos hl]
    have e2 : suV xs = 0 := by unfold suV; rw [e1, if_neg (by decide)]
    rw [e1, e2]
    have hl' : 5000 < (xs.length : Int) := by omega
    clear hA hl e1 e2
    go_enter Try.func7, Try.ntmps7
    go_wp2
    go_ret2
    exact ⟨rfl, rfl⟩
  · have hE : suE xs = if xs.all amB then (if amB (suM xs) then 0 else 14) else 2 := by unfold suE; rw [if_neg hl]
    have hV : suV xs = if suE xs = 0 then suM xs else 0 := rfl
    refine rsum7_go A c xs xs.length rfl (by omega) (fun i => xs.getD i 0) (fun _ => rfl) _ _ w hA (fun k hk g => ?_) (fun ha g => ?_) (fun ha g => ?_)
    · have e1 : suE xs = 2 := by rw [hE, all_am hk g]; rfl
      exact ⟨by rw [hV, e1]; rfl, e1⟩
    · have e1 : suE xs = 14 := by
        have g' : amB (suM xs) = false := g
        rw [hE, all_am2 ha, g']; rfl
      exact ⟨by rw [hV, e1]; rfl, e1⟩
    · have e1 : suE xs = 0 := by
        have g' : amB (suM xs) = true := g
        rw [hE, all_am2 ha, g']; rfl
      exact ⟨by rw [hV, e1]; rfl, e1⟩
end Go.Proofs.Ytalnfbgaiegicaa

/- Joined: IntR3, IntR4, IntR5, IntR6, IntR7. -/
import Derived.Test.YtbfimfjhdbpenaaGreatDoorPk4
import Derived.Deep.QuietTactic
import Derived.BigQuiet
import Derived.WalkSmall
import Derived.BigRegion
import Derived.RegionTactic
import Derived.ChangeAlike
/- The walks of the reference of layer 1: differences, texts. -/
namespace Go.Proofs.YtbfimfjhdbpenaaGreatDoor
open Go Go.RowKit
def MinInv (xs ys os : List Nat) (k c : Nat) : Prop := os.length = k ∧ (∀ d ∈ os, d < 10) ∧ vl 10 os + vl 10 (ys.take k) = vl 10 (xs.take k) + 10 ^ k * c - 0 ∧ c ≤ 1
theorem MinInv.step {xs ys os : List Nat} {k c : Nat} (h : MinInv xs ys os k c) (x y : Nat) (ex : xs.getD k 0 = x) (ey : ys.getD k 0 = y) (hx : x < 10) (hy : y < 10) :
    (y + c ≤ x → MinInv xs ys (os ++ [x - y - c]) (k + 1) 0) ∧ (x < y + c → MinInv xs ys (os ++ [x + 10 - y - c]) (k + 1) 1) := by
  obtain ⟨h1, h2, h3, h4⟩ := h
  subst ex; subst ey
  have key : ∀ d c', d < 10 → d + ys.getD k 0 + c = xs.getD k 0 + 10 * c' → c' ≤ 1 → MinInv xs ys (os ++ [d]) (k + 1) c' := by
    intro d c' hd he hc'
    refine ⟨by simp [h1], fun e hm => ?_, ?_, hc'⟩
    · rcases List.mem_append.1 hm with hm | hm
      · exact h2 e hm
      · have : e = d := by simpa using hm
        omega
    · rw [vl_snoc, vl_take_succ, vl_take_succ, h1, Nat.pow_succ]
      generalize xs.getD k 0 = x at *
      generalize ys.getD k 0 = y at *
      rw [Nat.sub_zero] at h3 ⊢
      grind
  exact ⟨fun h => key _ 0 (by omega) (by omega) (by omega), fun h => key _ 1 (by omega) (by omega) (by omega)⟩
theorem MinInv.last {xs ys os : List Nat} {c : Nat} (h : MinInv xs ys os xs.length c) (hx : ∀ d ∈ xs, d < 10) (hle : vl 10 ys ≤ vl 10 xs) : os.length = xs.length ∧ (∀ d ∈ os, d < 10) ∧ vl 10 os = vl 10 xs - vl 10 ys := by
  obtain ⟨h1, h2, h3, h4⟩ := h
  refine ⟨h1, h2, ?_⟩
  rw [vl_take_all 10 xs _ (Nat.le_refl _), Nat.sub_zero] at h3
  have l1 := vl_lt 10 xs hx
  have l2 := vl_lt 10 os h2
  rw [h1] at l2
  have hy : vl 10 ys = vl 10 (ys.take xs.length) := by
    by_cases hl : xs.length ≤ ys.length
    · have e := vl_take_drop 10 ys xs.length hl
      rcases Nat.eq_zero_or_pos (vl 10 (ys.drop xs.length)) with h0 | h0
      · rw [h0] at e; simpa using e
      · have : 10 ^ xs.length * 1 ≤ 10 ^ xs.length * vl 10 (ys.drop xs.length) := Nat.mul_le_mul_left _ h0
        omega
    · rw [vl_take_all 10 ys _ (by omega)]
  rw [← hy] at h3
  rcases Nat.eq_zero_or_pos c with h0 | h0
  · rw [h0] at h3; simp at h3; omega
  · obtain rfl : c = 1 := by omega
    simp at h3; omega
set_option maxRecDepth 100000 in
set_option maxHeartbeats 400000 in
theorem minus_any (A B : Option Addr) (ca cb : Nat) (xs ys : List Nat) (w : World) (hA : SlA encI w A xs) (hB : SlA encI w B ys) (ha : ∀ d ∈ xs, d < 10) (hb : ∀ d ∈ ys, d < 10) (hla : xs.length ≤ 1099511627776) (hle : vl 10 ys ≤ vl 10 xs) :
    Calls Tryz.prog 171 #[.slice A xs.length ca, .slice B ys.length cb] w fun e w' => ∃ v os, e = .returned v ∧ w'.ownsRow w.heap.size 3 1 v os.length (os.map encI) ∧ Below w.heap.size w w' ∧ os.length = xs.length ∧ (∀ d ∈ os, d < 10) ∧ vl 10 os = vl 10 xs - vl 10 ys := by
  obtain ⟨i0, hi, hz0, hz1, hz2⟩ := info_parts Tryz.info3'
  have HA := Lib.hid (getD_lt 10 xs ha (by omega))
  have HB := Lib.hid (getD_lt 10 ys hb (by omega))
  have HL := Lib.hid (fun (os : List Nat) (c : Nat) (h : MinInv xs ys os xs.length c) => h.last ha hle)
  clear ha hb hle
  go_enter Tryz.func171, Tryz.ntmps171
  go_wp2
  go_loopw [5, 6, 7] (fun out cy i wr => ∃ (k c : Nat) (os : List Nat), k ≤ xs.length ∧ i = .int .i64 k ∧ cy = .int .i64 c ∧ c ≤ 1 ∧ wr.ownsRow w.heap.size 3 1 out k (os.map encI) ∧ Hid (MinInv xs ys os k c) ∧ Below w.heap.size w wr) (fun _ _ i _ => xs.length - (intOf i).toNat)
  case atStart => exact ⟨0, 0, [], by omega, rfl, rfl, by omega, World.ownsRow_nil _ _ _ _, ⟨rfl, by simp, by simp [vl], by omega⟩, Below.refl _ _⟩
  case round =>
    obtain ⟨k, c, os, hk, rfl, rfl, hc, hown, hinv, hbel⟩ := hrel
    by_cases hlt : k < xs.length
    · have hx := HA.out k
      have hy := HB.out k
      obtain ⟨b, o, rfl, hb0, hc0⟩ := (hA.below hbel).get hlt
      have HI := Lib.hid (fun x y ex ey h1 h2 => hinv.out.step x y ex ey h1 h2)
      clear hinv
      have TB := Lib.hid (fun n => at_any B cb ys (wr.drewN n) (hB.below (below_drewN hbel n)) k)
      have ex : xs.getD k 0 = xs[k] := by simp [hlt]
      rw [← ex] at hc0
      clear ex
      have HI := Lib.hid (HI.out _ _ rfl rfl hx hy)
      generalize xs.getD k 0 = x at hx HI hc0
      generalize ys.getD k 0 = y at hy HI TB
      unfold encI at hc0
      have hx' : (x : Int) ≤ 9 := by omega
      have hy' : (y : Int) ≤ 9 := by omega
      have hsz := hbel.size
      have ek1 : (0 : Int) ≤ (k : Int) := by omega
      have ek2 : (k : Int) < (xs.length : Int) := by omega
      have ek3 : ((k : Int)).toNat = k := by omega
      go_wp2
      go_quiet ((go_at_call 186; exact Calls.quiet_of_same ((TB.out _).mono fun _ _ h => ⟨h.1, h.2.symm⟩)))
      have hownD : (wr.drewN nq).ownsRow w.heap.size 3 1 _ k (os.map encI) := hown
      have hbelD : Below w.heap.size w (wr.drewN nq) := below_drewN hbel nq
      clear hown hbel hb0 hc0 TB
      have hszD : w.heap.size ≤ (wr.drewN nq).heap.size := hsz
      generalize wr.drewN nq = wq at *
      by_cases hd : y + c ≤ x
      · have HI := Lib.hid (HI.out.1 hd)
        have hd' : (y : Int) + c ≤ x := by omega
        go_wp2_with (at_builtin; refine wpList_app1 hownD _ rfl _ _ 145 rfl i0 (.int .i64 0) 8 Tryz.underlying145 hi hz0 hz1 hz2 rfl rfl rfl rfl (by unfold maxLen; omega) (by omega) (by omega) ?_; intro v' w' hown' hb')
        go_roundw
        case rel => exact ⟨k + 1, 0, os ++ [x - y - c], by omega, by go_num, rfl, by omega, own_snoc hown' (by omega), HI, hbelD.trans hb'⟩
        case measure => simp [intOf]; omega
      · have HI := Lib.hid (HI.out.2 (by omega))
        have hd' : (x : Int) < (y : Int) + c := by omega
        go_wp2_with (at_builtin; refine wpList_app1 hownD _ rfl _ _ 145 rfl i0 (.int .i64 0) 8 Tryz.underlying145 hi hz0 hz1 hz2 rfl rfl rfl rfl (by unfold maxLen; omega) (by omega) (by omega) ?_; intro v' w' hown' hb')
        go_roundw
        case rel => exact ⟨k + 1, 1, os ++ [x + 10 - y - c], by omega, by go_num, rfl, by omega, own_snoc hown' (by omega), HI, hbelD.trans hb'⟩
        case measure => simp [intOf]; omega
    · obtain rfl : k = xs.length := by omega
      have HF := Lib.hid (HL.out os c hinv.out)
      clear HL hinv
      go_wp2
      go_ret
      exact ⟨_, os, rfl, by rw [HF.out.1]; exact hown, hbel, HF.out.1, HF.out.2.1, HF.out.2.2⟩
theorem Tryz.info5' : (Tryz.prog.info? 5).map (fun i => (i.zero, i.size, i.bytes)) = some (some (.int .u8 0), 1, 1) := by kernel_rfl
def TxInv (neg : Bool) (ts : List Nat) (l : List UInt8) (j : Nat) : Prop := l = (if neg then [45] else []) ++ (ts.drop j).reverse.map dch
theorem TxInv.start (neg : Bool) (ts : List Nat) : TxInv neg ts (if neg then [45] else []) ts.length := by
  unfold TxInv; rw [List.drop_of_length_le (Nat.le_refl _)]; simp
theorem TxInv.step {neg : Bool} {ts : List Nat} {l : List UInt8} {j : Nat} (h : TxInv neg ts l (j + 1)) (hj : j < ts.length) : TxInv neg ts (l ++ [dch ts[j]]) j := by
  unfold TxInv at *
  rw [List.drop_eq_getElem_cons hj, h, List.reverse_cons, List.map_append, List.append_assoc]
  rfl
theorem TxInv.len {neg : Bool} {ts : List Nat} {l : List UInt8} {j : Nat} (h : TxInv neg ts l j) : l.length ≤ ts.length + 1 := by
  unfold TxInv at h
  rw [h]; cases neg <;> simp <;> omega
set_option maxRecDepth 100000 in
set_option maxHeartbeats 600000 in
theorem text_true (A : Option Addr) (ca : Nat) (xs : List Nat) (w : World) (hA : SlA encI w A xs) (ha : ∀ d ∈ xs, d < 10) (hla : xs.length ≤ 1099511627776) :
    Calls Tryz.prog 145 #[.slice A xs.length ca, .bool true] w fun e w' => e = .returned (.string ⟨(Lib.itoa (sgn true (vl 10 xs))).toArray⟩) ∧ Below w.heap.size w w' := by
  obtain ⟨i1, hi', hz0', hz1', hz2'⟩ := info_parts Tryz.info5'
  go_enter Tryz.func145, Tryz.ntmps145
  go_wp2
  go_loop [5] (fun n => ∃ j : Nat, j ≤ xs.length ∧ n = .int .i64 j ∧ Hid (vl 10 xs = vl 10 (xs.take j))) (fun n => (intOf n).toNat)
  case atStart => exact ⟨xs.length, Nat.le_refl _, rfl, by show _ = _; rw [List.take_of_length_le (Nat.le_refl _)]⟩
  case round =>
    obtain ⟨j, hj, rfl, hinv⟩ := hrel
    cases j with
    | zero =>
      have HX : Hid (Lib.itoa (sgn true (vl 10 xs)) = [48]) := by
        have := hinv.out
        rw [List.take_zero] at this
        show _ = _
        rw [this]; exact itoa_sgn_zero _
      clear hinv
      go_wp2
      go_ret
      exact ⟨ret_str HX.out.symm, Below.refl _ _⟩
    | succ j =>
      have hlt : j < xs.length := hj
      obtain ⟨b, o, rfl, hb, hcells⟩ := hA.all (by rintro rfl; simp at hlt)
      have hc := hcells j hlt
      have hd10 := ha xs[j] (List.getElem_mem hlt)
      obtain ⟨x, hx⟩ : ∃ x, xs[j] = x := ⟨_, rfl⟩
      rw [hx] at hc hd10
      unfold encI at hc
      by_cases h0 : x = 0
      · subst h0
        have HI : Hid (vl 10 xs = vl 10 (xs.take j)) := by
          have := hinv.out
          rw [take_snoc xs j hlt, vl_snoc, hx] at this
          show _ = _
          rw [this]; simp
        clear hinv hx hcells hA
        go_wp2
        go_round
        case rel => exact ⟨j, by omega, by go_num, HI⟩
        case measure => simp [intOf]
      · have hx0 : ((x : Int) == 0) = false := by rw [beq_eq_false_iff_ne]; omega
        have htl : (xs.take (j + 1)).length = j + 1 := by rw [List.length_take]; omega
        have HX : ∀ l, Hid (TxInv true (xs.take (j + 1)) l 0 → Lib.itoa (sgn true (vl 10 xs)) = l) := by
          intro l h
          have e := hinv.out
          have htake := take_snoc xs j hlt
          rw [hx] at htake
          obtain ⟨d1, d2⟩ := dec_of_digits (xs.take j) x (by rw [← htake]; exact fun d hd => ha d (List.mem_of_mem_take hd)) h0
          rw [← htake] at d1 d2
          rw [e, itoa_sgn _ _ d2, ← d1]
          unfold TxInv at h
          rw [h, List.drop_zero]
        have HX := Lib.hid HX
        have Hstart : Hid (TxInv true (xs.take (j + 1)) (if true then [45] else []) (j + 1)) := by
          have := TxInv.start true (xs.take (j + 1))
          rwa [htl] at this
        have HC := Lib.hid hcells
        have HD : Hid (∀ i (h : i < xs.length), xs[i] < 10) := fun i h => ha xs[i] (List.getElem_mem h)
        clear hinv hx hcells hA ha htl
        go_wp2_with (at_builtin; refine wpList_app1 (World.ownsRow_nil w w.heap.size 5 1) _ rfl _ _ 208 rfl i1 (.int .u8 0) 1 Tryz.underlying208 hi' hz0' hz1' hz2' rfl rfl rfl rfl (by unfold maxLen; omega) (by omega) (by omega) ?_; intro v0 w0 hown0 hb0)
        go_loopw [6, 7] (fun out i wr => ∃ (k n : Nat) (l : List UInt8), k ≤ j + 1 ∧ i = .int .i64 ((k : Int) - 1) ∧ wr.ownsRow w.heap.size 5 1 out n (Lib.byteCells l) ∧ Hid (TxInv true (xs.take (j + 1)) l k) ∧ Below w.heap.size w wr) (fun _ i _ => (intOf i + 1).toNat)
        case atStart => exact ⟨_, _, [45], Nat.le_refl _, int_eq (by omega), hown0, Hstart, hb0⟩
        case round =>
          obtain ⟨k, n, l, hk, rfl, hown, hti, hbel⟩ := hrel
          cases k with
          | zero =>
            have HF := Lib.hid ((HX.out l).out hti.out)
            have hcv := conv_own (P := Tryz.prog) hown 208 109 Tryz.underlying208 Tryz.underlying5 Tryz.underlying109
            clear hti hown HC HX HD Hstart
            go_wp2
            go_ret
            exact ⟨ret_str HF.out.symm, hbel⟩
          | succ k =>
            have ek : ((k + 1 : Nat) : Int) - 1 = (k : Int) := by omega
            rw [ek]
            clear ek
            have hkl : k < xs.length := by omega
            have hc1 := HC.out k hkl
            have hdk := HD.out k hkl
            have HS := Lib.hid (hti.out.step (by rw [List.length_take]; omega))
            have hln := hti.out.len
            have hln' : n = l.length := by have := hown.1; simpa [Lib.byteCells] using this.symm
            have htl : (xs.take (j + 1)).length ≤ xs.length := by rw [List.length_take]; omega
            have eg : (xs.take (j + 1))[k]'(by rw [List.length_take]; omega) = xs[k] := by simp
            rw [eg] at HS
            obtain ⟨y, hy⟩ : ∃ y, xs[k] = y := ⟨_, rfl⟩
            rw [hy] at hc1 hdk HS
            unfold encI at hc1
            rw [← hbel.cell (p := ⟨b, o + k, none⟩) hb] at hc1
            have hsz := hbel.size
            have hy9 : (y : Int) ≤ 9 := by omega
            have hnb : n ≤ 1099511627777 := by omega
            clear hti eg hy HC HX HD Hstart hln hln' htl
            go_wp2_with (at_builtin; refine wpList_app1 hown _ rfl _ _ 208 rfl i1 (.int .u8 0) 1 Tryz.underlying208 hi' hz0' hz1' hz2' rfl rfl rfl rfl (by unfold maxLen; omega) (by omega) (by omega) ?_; intro v' w' hown' hb')
            go_roundw
            case rel => exact ⟨k, n + 1, l ++ [dch y], by omega, rfl, own_byte hown' (by omega) (by omega), HS, hbel.trans hb'⟩
            case measure => simp [intOf]
set_option maxRecDepth 100000 in
set_option maxHeartbeats 600000 in
theorem text_false (A : Option Addr) (ca : Nat) (xs : List Nat) (w : World) (hA : SlA encI w A xs) (ha : ∀ d ∈ xs, d < 10) (hla : xs.length ≤ 1099511627776) :
    Calls Tryz.prog 145 #[.slice A xs.length ca, .bool false] w fun e w' => e = .returned (.string ⟨(Lib.itoa (sgn false (vl 10 xs))).toArray⟩) ∧ Below w.heap.size w w' := by
  obtain ⟨i1, hi', hz0', hz1', hz2'⟩ := info_parts Tryz.info5'
  go_enter Tryz.func145, Tryz.ntmps145
  go_wp2
  go_loop [5] (fun n => ∃ j : Nat, j ≤ xs.length ∧ n = .int .i64 j ∧ Hid (vl 10 xs = vl 10 (xs.take j))) (fun n => (intOf n).toNat)
  case atStart => exact ⟨xs.length, Nat.le_refl _, rfl, by show _ = _; rw [List.take_of_length_le (Nat.le_refl _)]⟩
  case round =>
    obtain ⟨j, hj, rfl, hinv⟩ := hrel
    cases j with
    | zero =>
      have HX : Hid (Lib.itoa (sgn false (vl 10 xs)) = [48]) := by
        have := hinv.out
        rw [List.take_zero] at this
        show _ = _
        rw [this]; exact itoa_sgn_zero _
      clear hinv
      go_wp2
      go_ret
      exact ⟨ret_str HX.out.symm, Below.refl _ _⟩
    | succ j =>
      have hlt : j < xs.length := hj
      obtain ⟨b, o, rfl, hb, hcells⟩ := hA.all (by rintro rfl; simp at hlt)
      have hc := hcells j hlt
      have hd10 := ha xs[j] (List.getElem_mem hlt)
      obtain ⟨x, hx⟩ : ∃ x, xs[j] = x := ⟨_, rfl⟩
      rw [hx] at hc hd10
      unfold encI at hc
      by_cases h0 : x = 0
      · subst h0
        have HI : Hid (vl 10 xs = vl 10 (xs.take j)) := by
          have := hinv.out
          rw [take_snoc xs j hlt, vl_snoc, hx] at this
          show _ = _
          rw [this]; simp
        clear hinv hx hcells hA
        go_wp2
        go_round
        case rel => exact ⟨j, by omega, by go_num, HI⟩
        case measure => simp [intOf]
      · have hx0 : ((x : Int) == 0) = false := by rw [beq_eq_false_iff_ne]; omega
        have htl : (xs.take (j + 1)).length = j + 1 := by rw [List.length_take]; omega
        have HX : ∀ l, Hid (TxInv false (xs.take (j + 1)) l 0 → Lib.itoa (sgn false (vl 10 xs)) = l) := by
          intro l h
          have e := hinv.out
          have htake := take_snoc xs j hlt
          rw [hx] at htake
          obtain ⟨d1, d2⟩ := dec_of_digits (xs.take j) x (by rw [← htake]; exact fun d hd => ha d (List.mem_of_mem_take hd)) h0
          rw [← htake] at d1 d2
          rw [e, itoa_sgn _ _ d2, ← d1]
          unfold TxInv at h
          rw [h, List.drop_zero]
        have HX := Lib.hid HX
        have Hstart : Hid (TxInv false (xs.take (j + 1)) (if false then [45] else []) (j + 1)) := by
          have := TxInv.start false (xs.take (j + 1))
          rwa [htl] at this
        have HC := Lib.hid hcells
        have HD : Hid (∀ i (h : i < xs.length), xs[i] < 10) := fun i h => ha xs[i] (List.getElem_mem h)
        clear hinv hx hcells hA ha htl
        go_wp2
        go_loopw [6, 7] (fun out i wr => ∃ (k n : Nat) (l : List UInt8), k ≤ j + 1 ∧ i = .int .i64 ((k : Int) - 1) ∧ wr.ownsRow w.heap.size 5 1 out n (Lib.byteCells l) ∧ Hid (TxInv false (xs.take (j + 1)) l k) ∧ Below w.heap.size w wr) (fun _ i _ => (intOf i + 1).toNat)
        case atStart => exact ⟨_, 0, [], Nat.le_refl _, int_eq (by omega), World.ownsRow_nil _ _ _ _, Hstart, Below.refl _ _⟩
        case round =>
          obtain ⟨k, n, l, hk, rfl, hown, hti, hbel⟩ := hrel
          cases k with
          | zero =>
            have HF := Lib.hid ((HX.out l).out hti.out)
            have hcv := conv_own (P := Tryz.prog) hown 208 109 Tryz.underlying208 Tryz.underlying5 Tryz.underlying109
            clear hti hown HC HX HD Hstart
            go_wp2
            go_ret
            exact ⟨ret_str HF.out.symm, hbel⟩
          | succ k =>
            have ek : ((k + 1 : Nat) : Int) - 1 = (k : Int) := by omega
            rw [ek]
            clear ek
            have hkl : k < xs.length := by omega
            have hc1 := HC.out k hkl
            have hdk := HD.out k hkl
            have HS := Lib.hid (hti.out.step (by rw [List.length_take]; omega))
            have hln := hti.out.len
            have hln' : n = l.length := by have := hown.1; simpa [Lib.byteCells] using this.symm
            have htl : (xs.take (j + 1)).length ≤ xs.length := by rw [List.length_take]; omega
            have eg : (xs.take (j + 1))[k]'(by rw [List.length_take]; omega) = xs[k] := by simp
            rw [eg] at HS
            obtain ⟨y, hy⟩ : ∃ y, xs[k] = y := ⟨_, rfl⟩
            rw [hy] at hc1 hdk HS
            unfold encI at hc1
            rw [← hbel.cell (p := ⟨b, o + k, none⟩) hb] at hc1
            have hsz := hbel.size
            have hy9 : (y : Int) ≤ 9 := by omega
            have hnb : n ≤ 1099511627777 := by omega
            clear hti eg hy HC HX HD Hstart hln hln' htl
            go_wp2_with (at_builtin; refine wpList_app1 hown _ rfl _ _ 208 rfl i1 (.int .u8 0) 1 Tryz.underlying208 hi' hz0' hz1' hz2' rfl rfl rfl rfl (by unfold maxLen; omega) (by omega) (by omega) ?_; intro v' w' hown' hb')
            go_roundw
            case rel => exact ⟨k, n + 1, l ++ [dch y], by omega, rfl, own_byte hown' (by omega) (by omega), HS, hbel.trans hb'⟩
            case measure => simp [intOf]
theorem text_any (neg : Bool) (A : Option Addr) (ca : Nat) (xs : List Nat) (w : World) (hA : SlA encI w A xs) (ha : ∀ d ∈ xs, d < 10) (hla : xs.length ≤ 1099511627776) :
    Calls Tryz.prog 145 #[.slice A xs.length ca, .bool neg] w fun e w' => e = .returned (.string ⟨(Lib.itoa (sgn neg (vl 10 xs))).toArray⟩) ∧ Below w.heap.size w w' := by
  cases neg
  · exact text_false A ca xs w hA ha hla
  · exact text_true A ca xs w hA ha hla
end Go.Proofs.YtbfimfjhdbpenaaGreatDoor
/- The walks of the reference of layer 1: integers. -/
namespace Go.Proofs.YtbfimfjhdbpenaaGreatDoor
open Go Go.RowKit
theorem both_any (s t : ByteArray) (hs : s.size ≤ 1099511627776) (ht : t.size ≤ 1099511627776) (w : World) :
    Calls Tryz.prog 142 #[.string s, .string t] w fun e w' => e = .returned (.int .i64 (bothE s.data.toList t.data.toList)) ∧ Below w.heap.size w w' := by
  have CS := Lib.hid (fun W => refCheck_any s W hs)
  have CT := Lib.hid (fun W => refCheck_any t W ht)
  unfold bothE
  obtain ⟨x, hx⟩ : ∃ x, chk s.data.toList = x := ⟨_, rfl⟩
  obtain ⟨y, hy⟩ : ∃ y, chk t.data.toList = y := ⟨_, rfl⟩
  rw [hx] at CS ⊢
  rw [hy] at CT ⊢
  clear hx hy hs ht
  by_cases h0 : x = 0
  · subst h0
    rw [if_pos rfl]
    go_enter Tryz.func142, Tryz.ntmps142
    go_wp2_with (first | (go_at_call 169; (with_reducible refine (CS.out _).mono ?_); rintro e w1 ⟨rfl, hb1⟩) | (go_at_call 169; (with_reducible refine (CT.out _).mono ?_); rintro e w2 ⟨rfl, hb2⟩))
    go_ret
    exact ⟨rfl, bt hb1 hb2⟩
  · rw [if_neg h0]
    have h1 : (x == 0) = false := by rw [beq_eq_false_iff_ne]; exact h0
    have h2 : (x != 0) = true := by rw [bne_iff_ne]; exact h0
    clear h0
    go_enter Tryz.func142, Tryz.ntmps142
    go_wp2_with fail
    refine (CS.out _).mono ?_
    rintro e w1 ⟨rfl, hb1⟩
    go_wp2_with fail
    refine (CS.out _).mono ?_
    rintro e w2 ⟨rfl, hb2⟩
    go_wp2
    go_ret
    exact ⟨rfl, bt hb1 hb2⟩
end Go.Proofs.YtbfimfjhdbpenaaGreatDoor
/- The walks of the reference of layer 1: products. -/
namespace Go.Proofs.YtbfimfjhdbpenaaGreatDoor
open Go Go.RowKit
theorem own_set' {w : World} {base e g n cap : Nat} {os : List Nat} (h : w.ownsRow base e 1 (.slice (some ⟨g, 0, none⟩) n cap) n (os.map encI)) (j v : Nat) {z : Int} (hz : (v : Int) = z) :
    (w.setCell ⟨g, j, none⟩ (.int .i64 z)).ownsRow base e 1 (.slice (some ⟨g, 0, none⟩) n cap) n ((os.set j v).map encI) := by
  have h1 := (h.stored j (.int .i64 z)).1
  have e1 : (os.set j v).map encI = (os.map encI).set j (.int .i64 z) := by rw [List.map_set, ← hz]; rfl
  rw [e1]; exact h1
end Go.Proofs.YtbfimfjhdbpenaaGreatDoor
/- The walks of the reference of layer 1: the functions that the chapter lists. -/
namespace Go.Proofs.YtbfimfjhdbpenaaGreatDoor
open Go Go.RowKit
end Go.Proofs.YtbfimfjhdbpenaaGreatDoor
/- The walks of the reference of layer 1: Of and To. -/
namespace Go.Proofs.YtbfimfjhdbpenaaGreatDoor
open Go Go.RowKit
theorem vl_drop_succ (xs : List Nat) (k : Nat) (h : k < xs.length) : vl 10 (xs.drop k) = xs[k] + 10 * vl 10 (xs.drop (k + 1)) := by
  rw [List.drop_eq_getElem_cons h]; rfl
end Go.Proofs.YtbfimfjhdbpenaaGreatDoor

/- Joined: IntR3, IntR4, IntR5, IntR6, IntR7. -/
import Derived.Test.YtceooffedkalnaaGreatDoorPk4
import Derived.Deep.QuietTactic
import Derived.BigQuiet
import Derived.WalkSmall
import Derived.BigRegion
import Derived.RegionTactic
import Derived.ChangeAlike
/- The walks of the reference of layer 1: differences, texts. -/
namespace Go.Proofs.YtceooffedkalnaaGreatDoor
open Go Go.RowKit
def MinInv (xs ys os : List Nat) (k c : Nat) : Prop := os.length = k ∧ (∀ d ∈ os, d < 10) ∧ vl 10 os + vl 10 (ys.take k) = vl 10 (xs.take k) + 10 ^ k * c - 0 ∧ c ≤ 1
theorem MinInv.step {xs ys os : List Nat} {k c : Nat} (h : MinInv xs ys os k c) (x y : Nat) (ex : xs.getD k 0 = x) (ey : ys.getD k 0 = y) (hx : x < 10) (hy : y < 10) :
    (y + c ≤ x → MinInv xs ys (os ++ [x - y - c]) (k + 1) 0) ∧ (x < y + c → MinInv xs ys (os ++ [x + 10 - y - c]) (k + 1) 1) := by
  obtain ⟨h1, h2, h3, h4⟩ := h
  subst ex; subst ey
  have key : ∀ d c', d < 10 → d + ys.getD k 0 + c = xs.getD k 0 + 10 * c' → c' ≤ 1 → MinInv xs ys (os ++ [d]) (k + 1) c' := by
    intro d c' hd he hc'
    refine ⟨by simp [h1], fun e hm => ?_, ?_, hc'⟩
    · rcases List.mem_append.1 hm with hm | hm
      · exact h2 e hm
      · have : e = d := by simpa using hm
        omega
    · rw [vl_snoc, vl_take_succ, vl_take_succ, h1, Nat.pow_succ]
      generalize xs.getD k 0 = x at *
      generalize ys.getD k 0 = y at *
      rw [Nat.sub_zero] at h3 ⊢
      grind
  exact ⟨fun h => key _ 0 (by omega) (by omega) (by omega), fun h => key _ 1 (by omega) (by omega) (by omega)⟩
theorem MinInv.last {xs ys os : List Nat} {c : Nat} (h : MinInv xs ys os xs.length c) (hx : ∀ d ∈ xs, d < 10) (hle : vl 10 ys ≤ vl 10 xs) : os.length = xs.length ∧ (∀ d ∈ os, d < 10) ∧ vl 10 os = vl 10 xs - vl 10 ys := by
  obtain ⟨h1, h2, h3, h4⟩ := h
  refine ⟨h1, h2, ?_⟩
  rw [vl_take_all 10 xs _ (Nat.le_refl _), Nat.sub_zero] at h3
  have l1 := vl_lt 10 xs hx
  have l2 := vl_lt 10 os h2
  rw [h1] at l2
  have hy : vl 10 ys = vl 10 (ys.take xs.length) := by
    by_cases hl : xs.length ≤ ys.length
    · have e := vl_take_drop 10 ys xs.length hl
      rcases Nat.eq_zero_or_pos (vl 10 (ys.drop xs.length)) with h0 | h0
      · rw [h0] at e; simpa using e
      · have : 10 ^ xs.length * 1 ≤ 10 ^ xs.length * vl 10 (ys.drop xs.length) := Nat.mul_le_mul_left _ h0
        omega
    · rw [vl_take_all 10 ys _ (by omega)]
  rw [← hy] at h3
  rcases Nat.eq_zero_or_pos c with h0 | h0
  · rw [h0] at h3; simp at h3; omega
  · obtain rfl : c = 1 := by omega
    simp at h3; omega
set_option maxRecDepth 100000 in
set_option maxHeartbeats 400000 in
theorem minus_any (A B : Option Addr) (ca cb : Nat) (xs ys : List Nat) (w : World) (hA : SlA encI w A xs) (hB : SlA encI w B ys) (ha : ∀ d ∈ xs, d < 10) (hb : ∀ d ∈ ys, d < 10) (hla : xs.length ≤ 1099511627776) (hle : vl 10 ys ≤ vl 10 xs) :
    Calls Tryz.prog 171 #[.slice A xs.length ca, .slice B ys.length cb] w fun e w' => ∃ v os, e = .returned v ∧ w'.ownsRow w.heap.size 3 1 v os.length (os.map encI) ∧ Below w.heap.size w w' ∧ os.length = xs.length ∧ (∀ d ∈ os, d < 10) ∧ vl 10 os = vl 10 xs - vl 10 ys := by
  obtain ⟨i0, hi, hz0, hz1, hz2⟩ := info_parts Tryz.info3'
  have HA := Lib.hid (getD_lt 10 xs ha (by omega))
  have HB := Lib.hid (getD_lt 10 ys hb (by omega))
  have HL := Lib.hid (fun (os : List Nat) (c : Nat) (h : MinInv xs ys os xs.length c) => h.last ha hle)
  clear ha hb hle
  go_enter Tryz.func171, Tryz.ntmps171
  go_wp2
  go_loopw [5, 6, 7] (fun out cy i wr => ∃ (k c : Nat) (os : List Nat), k ≤ xs.length ∧ i = .int .i64 k ∧ cy = .int .i64 c ∧ c ≤ 1 ∧ wr.ownsRow w.heap.size 3 1 out k (os.map encI) ∧ Hid (MinInv xs ys os k c) ∧ Below w.heap.size w wr) (fun _ _ i _ => xs.length - (intOf i).toNat)
  case atStart => exact ⟨0, 0, [], by omega, rfl, rfl, by omega, World.ownsRow_nil _ _ _ _, ⟨rfl, by simp, by simp [vl], by omega⟩, Below.refl _ _⟩
  case round =>
    obtain ⟨k, c, os, hk, rfl, rfl, hc, hown, hinv, hbel⟩ := hrel
    by_cases hlt : k < xs.length
    · have hx := HA.out k
      have hy := HB.out k
      obtain ⟨b, o, rfl, hb0, hc0⟩ := (hA.below hbel).get hlt
      have HI := Lib.hid (fun x y ex ey h1 h2 => hinv.out.step x y ex ey h1 h2)
      clear hinv
      have TB := Lib.hid (fun n => at_any B cb ys (wr.drewN n) (hB.below (below_drewN hbel n)) k)
      have ex : xs.getD k 0 = xs[k] := by simp [hlt]
      rw [← ex] at hc0
      clear ex
      have HI := Lib.hid (HI.out _ _ rfl rfl hx hy)
      generalize xs.getD k 0 = x at hx HI hc0
      generalize ys.getD k 0 = y at hy HI TB
      unfold encI at hc0
      have hx' : (x : Int) ≤ 9 := by omega
      have hy' : (y : Int) ≤ 9 := by omega
      have hsz := hbel.size
      have ek1 : (0 : Int) ≤ (k : Int) := by omega
      have ek2 : (k : Int) < (xs.length : Int) := by omega
      have ek3 : ((k : Int)).toNat = k := by omega
      go_wp2
      go_quiet ((go_at_call 186; exact Calls.quiet_of_same ((TB.out _).mono fun _ _ h => ⟨h.1, h.2.symm⟩)))
      have hownD : (wr.drewN nq).ownsRow w.heap.size 3 1 _ k (os.map encI) := hown
      have hbelD : Below w.heap.size w (wr.drewN nq) := below_drewN hbel nq
      clear hown hbel hb0 hc0 TB
      have hszD : w.heap.size ≤ (wr.drewN nq).heap.size := hsz
      generalize wr.drewN nq = wq at *
      by_cases hd : y + c ≤ x
      · have HI := Lib.hid (HI.out.1 hd)
        have hd' : (y : Int) + c ≤ x := by omega
        go_wp2_with (at_builtin; refine wpList_app1 hownD _ rfl _ _ 145 rfl i0 (.int .i64 0) 8 Tryz.underlying145 hi hz0 hz1 hz2 rfl rfl rfl rfl (by unfold maxLen; omega) (by omega) (by omega) ?_; intro v' w' hown' hb')
        go_roundw
        case rel => exact ⟨k + 1, 0, os ++ [x - y - c], by omega, by go_num, rfl, by omega, own_snoc hown' (by omega), HI, hbelD.trans hb'⟩
        case measure => simp [intOf]; omega
      · have HI := Lib.hid (HI.out.2 (by omega))
        have hd' : (x : Int) < (y : Int) + c := by omega
        go_wp2_with (at_builtin; refine wpList_app1 hownD _ rfl _ _ 145 rfl i0 (.int .i64 0) 8 Tryz.underlying145 hi hz0 hz1 hz2 rfl rfl rfl rfl (by unfold maxLen; omega) (by omega) (by omega) ?_; intro v' w' hown' hb')
        go_roundw
        case rel => exact ⟨k + 1, 1, os ++ [x + 10 - y - c], by omega, by go_num, rfl, by omega, own_snoc hown' (by omega), HI, hbelD.trans hb'⟩
        case measure => simp [intOf]; omega
    · obtain rfl : k = xs.length := by omega
      have HF := Lib.hid (HL.out os c hinv.out)
      clear HL hinv
      go_wp2
      go_ret
      exact ⟨_, os, rfl, by rw [HF.out.1]; exact hown, hbel, HF.out.1, HF.out.2.1, HF.out.2.2⟩
theorem Tryz.info5' : (Tryz.prog.info? 5).map (fun i => (i.zero, i.size, i.bytes)) = some (some (.int .u8 0), 1, 1) := by kernel_rfl
def TxInv (neg : Bool) (ts : List Nat) (l : List UInt8) (j : Nat) : Prop := l = (if neg then [45] else []) ++ (ts.drop j).reverse.map dch
theorem TxInv.start (neg : Bool) (ts : List Nat) : TxInv neg ts (if neg then [45] else []) ts.length := by
  unfold TxInv; rw [List.drop_of_length_le (Nat.le_refl _)]; simp
theorem TxInv.step {neg : Bool} {ts : List Nat} {l : List UInt8} {j : Nat} (h : TxInv neg ts l (j + 1)) (hj : j < ts.length) : TxInv neg ts (l ++ [dch ts[j]]) j := by
  unfold TxInv at *
  rw [List.drop_eq_getElem_cons hj, h, List.reverse_cons, List.map_append, List.append_assoc]
  rfl
theorem TxInv.len {neg : Bool} {ts : List Nat} {l : List UInt8} {j : Nat} (h : TxInv neg ts l j) : l.length ≤ ts.length + 1 := by
  unfold TxInv at h
  rw [h]; cases neg <;> simp <;> omega
set_option maxRecDepth 100000 in
set_option maxHeartbeats 600000 in
theorem text_true (A : Option Addr) (ca : Nat) (xs : List Nat) (w : World) (hA : SlA encI w A xs) (ha : ∀ d ∈ xs, d < 10) (hla : xs.length ≤ 1099511627776) :
    Calls Tryz.prog 145 #[.slice A xs.length ca, .bool true] w fun e w' => e = .returned (.string ⟨(Lib.itoa (sgn true (vl 10 xs))).toArray⟩) ∧ Below w.heap.size w w' := by
  obtain ⟨i1, hi', hz0', hz1', hz2'⟩ := info_parts Tryz.info5'
  go_enter Tryz.func145, Tryz.ntmps145
  go_wp2
  go_loop [5] (fun n => ∃ j : Nat, j ≤ xs.length ∧ n = .int .i64 j ∧ Hid (vl 10 xs = vl 10 (xs.take j))) (fun n => (intOf n).toNat)
  case atStart => exact ⟨xs.length, Nat.le_refl _, rfl, by show _ = _; rw [List.take_of_length_le (Nat.le_refl _)]⟩
  case round =>
    obtain ⟨j, hj, rfl, hinv⟩ := hrel
    cases j with
    | zero =>
      have HX : Hid (Lib.itoa (sgn true (vl 10 xs)) = [48]) := by
        have := hinv.out
        rw [List.take_zero] at this
        show _ = _
        rw [this]; exact itoa_sgn_zero _
      clear hinv
      go_wp2
      go_ret
      exact ⟨ret_str HX.out.symm, Below.refl _ _⟩
    | succ j =>
      have hlt : j < xs.length := hj
      obtain ⟨b, o, rfl, hb, hcells⟩ := hA.all (by rintro rfl; simp at hlt)
      have hc := hcells j hlt
      have hd10 := ha xs[j] (List.getElem_mem hlt)
      obtain ⟨x, hx⟩ : ∃ x, xs[j] = x := ⟨_, rfl⟩
      rw [hx] at hc hd10
      unfold encI at hc
      by_cases h0 : x = 0
      · subst h0
        have HI : Hid (vl 10 xs = vl 10 (xs.take j)) := by
          have := hinv.out
          rw [take_snoc xs j hlt, vl_snoc, hx] at this
          show _ = _
          rw [this]; simp
        clear hinv hx hcells hA
        go_wp2
        go_round
        case rel => exact ⟨j, by omega, by go_num, HI⟩
        case measure => simp [intOf]
      · have hx0 : ((x : Int) == 0) = false := by rw [beq_eq_false_iff_ne]; omega
        have htl : (xs.take (j + 1)).length = j + 1 := by rw [List.length_take]; omega
        have HX : ∀ l, Hid (TxInv true (xs.take (j + 1)) l 0 → Lib.itoa (sgn true (vl 10 xs)) = l) := by
          intro l h
          have e := hinv.out
          have htake := take_snoc xs j hlt
          rw [hx] at htake
          obtain ⟨d1, d2⟩ := dec_of_digits (xs.take j) x (by rw [← htake]; exact fun d hd => ha d (List.mem_of_mem_take hd)) h0
          rw [← htake] at d1 d2
          rw [e, itoa_sgn _ _ d2, ← d1]
          unfold TxInv at h
          rw [h, List.drop_zero]
        have HX := Lib.hid HX
        have Hstart : Hid (TxInv true (xs.take (j + 1)) (if true then [45] else []) (j + 1)) := by
          have := TxInv.start true (xs.take (j + 1))
          rwa [htl] at this
        have HC := Lib.hid hcells
        have HD : Hid (∀ i (h : i < xs.length), xs[i] < 10) := fun i h => ha xs[i] (List.getElem_mem h)
        clear hinv hx hcells hA ha htl
        go_wp2_with (at_builtin; refine wpList_app1 (World.ownsRow_nil w w.heap.size 5 1) _ rfl _ _ 208 rfl i1 (.int .u8 0) 1 Tryz.underlying208 hi' hz0' hz1' hz2' rfl rfl rfl rfl (by unfold maxLen; omega) (by omega) (by omega) ?_; intro v0 w0 hown0 hb0)
        go_loopw [6, 7] (fun out i wr => ∃ (k n : Nat) (l : List UInt8), k ≤ j + 1 ∧ i = .int .i64 ((k : Int) - 1) ∧ wr.ownsRow w.heap.size 5 1 out n (Lib.byteCells l) ∧ Hid (TxInv true (xs.take (j + 1)) l k) ∧ Below w.heap.size w wr) (fun _ i _ => (intOf i + 1).toNat)
        case atStart => exact ⟨_, _, [45], Nat.le_refl _, int_eq (by omega), hown0, Hstart, hb0⟩
        case round =>
          obtain ⟨k, n, l, hk, rfl, hown, hti, hbel⟩ := hrel
          cases k with
          | zero =>
            have HF := Lib.hid ((HX.out l).out hti.out)
            have hcv := conv_own (P := Tryz.prog) hown 208 109 Tryz.underlying208 Tryz.underlying5 Tryz.underlying109
            clear hti hown HC HX HD Hstart
            go_wp2
            go_ret
            exact ⟨ret_str HF.out.symm, hbel⟩
          | succ k =>
            have ek : ((k + 1 : Nat) : Int) - 1 = (k : Int) := by omega
            rw [ek]
            clear ek
            have hkl : k < xs.length := by omega
            have hc1 := HC.out k hkl
            have hdk := HD.out k hkl
            have HS := Lib.hid (hti.out.step (by rw [List.length_take]; omega))
            have hln := hti.out.len
            have hln' : n = l.length := by have := hown.1; simpa [Lib.byteCells] using this.symm
            have htl : (xs.take (j + 1)).length ≤ xs.length := by rw [List.length_take]; omega
            have eg : (xs.take (j + 1))[k]'(by rw [List.length_take]; omega) = xs[k] := by simp
            rw [eg] at HS
            obtain ⟨y, hy⟩ : ∃ y, xs[k] = y := ⟨_, rfl⟩
            rw [hy] at hc1 hdk HS
            unfold encI at hc1
            rw [← hbel.cell (p := ⟨b, o + k, none⟩) hb] at hc1
            have hsz := hbel.size
            have hy9 : (y : Int) ≤ 9 := by omega
            have hnb : n ≤ 1099511627777 := by omega
            clear hti eg hy HC HX HD Hstart hln hln' htl
            go_wp2_with (at_builtin; refine wpList_app1 hown _ rfl _ _ 208 rfl i1 (.int .u8 0) 1 Tryz.underlying208 hi' hz0' hz1' hz2' rfl rfl rfl rfl (by unfold maxLen; omega) (by omega) (by omega) ?_; intro v' w' hown' hb')
            go_roundw
            case rel => exact ⟨k, n + 1, l ++ [dch y], by omega, rfl, own_byte hown' (by omega) (by omega), HS, hbel.trans hb'⟩
            case measure => simp [intOf]
set_option maxRecDepth 100000 in
set_option maxHeartbeats 600000 in
theorem text_false (A : Option Addr) (ca : Nat) (xs : List Nat) (w : World) (hA : SlA encI w A xs) (ha : ∀ d ∈ xs, d < 10) (hla : xs.length ≤ 1099511627776) :
    Calls Tryz.prog 145 #[.slice A xs.length ca, .bool false] w fun e w' => e = .returned (.string ⟨(Lib.itoa (sgn false (vl 10 xs))).toArray⟩) ∧ Below w.heap.size w w' := by
  obtain ⟨i1, hi', hz0', hz1', hz2'⟩ := info_parts Tryz.info5'
  go_enter Tryz.func145, Tryz.ntmps145
  go_wp2
  go_loop [5] (fun n => ∃ j : Nat, j ≤ xs.length ∧ n = .int .i64 j ∧ Hid (vl 10 xs = vl 10 (xs.take j))) (fun n => (intOf n).toNat)
  case atStart => exact ⟨xs.length, Nat.le_refl _, rfl, by show _ = _; rw [List.take_of_length_le (Nat.le_refl _)]⟩
  case round =>
    obtain ⟨j, hj, rfl, hinv⟩ := hrel
    cases j with
    | zero =>
      have HX : Hid (Lib.itoa (sgn false (vl 10 xs)) = [48]) := by
        have := hinv.out
        rw [List.take_zero] at this
        show _ = _
        rw [this]; exact itoa_sgn_zero _
      clear hinv
      go_wp2
      go_ret
      exact ⟨ret_str HX.out.symm, Below.refl _ _⟩
    | succ j =>
      have hlt : j < xs.length := hj
      obtain ⟨b, o, rfl, hb, hcells⟩ := hA.all (by rintro rfl; simp at hlt)
      have hc := hcells j hlt
      have hd10 := ha xs[j] (List.getElem_mem hlt)
      obtain ⟨x, hx⟩ : ∃ x, xs[j] = x := ⟨_, rfl⟩
      rw [hx] at hc hd10
      unfold encI at hc
      by_cases h0 : x = 0
      · subst h0
        have HI : Hid (vl 10 xs = vl 10 (xs.take j)) := by
          have := hinv.out
          rw [take_snoc xs j hlt, vl_snoc, hx] at this
          show _ = _
          rw [this]; simp
        clear hinv hx hcells hA
        go_wp2
        go_round
        case rel => exact ⟨j, by omega, by go_num, HI⟩
        case measure => simp [intOf]
      · have hx0 : ((x : Int) == 0) = false := by rw [beq_eq_false_iff_ne]; omega
        have htl : (xs.take (j + 1)).length = j + 1 := by rw [List.length_take]; omega
        have HX : ∀ l, Hid (TxInv false (xs.take (j + 1)) l 0 → Lib.itoa (sgn false (vl 10 xs)) = l) := by
          intro l h
          have e := hinv.out
          have htake := take_snoc xs j hlt
          rw [hx] at htake
          obtain ⟨d1, d2⟩ := dec_of_digits (xs.take j) x (by rw [← htake]; exact fun d hd => ha d (List.mem_of_mem_take hd)) h0
          rw [← htake] at d1 d2
          rw [e, itoa_sgn _ _ d2, ← d1]
          unfold TxInv at h
          rw [h, List.drop_zero]
        have HX := Lib.hid HX
        have Hstart : Hid (TxInv false (xs.take (j + 1)) (if false then [45] else []) (j + 1)) := by
          have := TxInv.start false (xs.take (j + 1))
          rwa [htl] at this
        have HC := Lib.hid hcells
        have HD : Hid (∀ i (h : i < xs.length), xs[i] < 10) := fun i h => ha xs[i] (List.getElem_mem h)
        clear hinv hx hcells hA ha htl
        go_wp2
        go_loopw [6, 7] (fun out i wr => ∃ (k n : Nat) (l : List UInt8), k ≤ j + 1 ∧ i = .int .i64 ((k : Int) - 1) ∧ wr.ownsRow w.heap.size 5 1 out n (Lib.byteCells l) ∧ Hid (TxInv false (xs.take (j + 1)) l k) ∧ Below w.heap.size w wr) (fun _ i _ => (intOf i + 1).toNat)
        case atStart => exact ⟨_, 0, [], Nat.le_refl _, int_eq (by omega), World.ownsRow_nil _ _ _ _, Hstart, Below.refl _ _⟩
        case round =>
          obtain ⟨k, n, l, hk, rfl, hown, hti, hbel⟩ := hrel
          cases k with
          | zero =>
            have HF := Lib.hid ((HX.out l).out hti.out)
            have hcv := conv_own (P := Tryz.prog) hown 208 109 Tryz.underlying208 Tryz.underlying5 Tryz.underlying109
            clear hti hown HC HX HD Hstart
            go_wp2
            go_ret
            exact ⟨ret_str HF.out.symm, hbel⟩
          | succ k =>
            have ek : ((k + 1 : Nat) : Int) - 1 = (k : Int) := by omega
            rw [ek]
            clear ek
            have hkl : k < xs.length := by omega
            have hc1 := HC.out k hkl
            have hdk := HD.out k hkl
            have HS := Lib.hid (hti.out.step (by rw [List.length_take]; omega))
            have hln := hti.out.len
            have hln' : n = l.length := by have := hown.1; simpa [Lib.byteCells] using this.symm
            have htl : (xs.take (j + 1)).length ≤ xs.length := by rw [List.length_take]; omega
            have eg : (xs.take (j + 1))[k]'(by rw [List.length_take]; omega) = xs[k] := by simp
            rw [eg] at HS
            obtain ⟨y, hy⟩ : ∃ y, xs[k] = y := ⟨_, rfl⟩
            rw [hy] at hc1 hdk HS
            unfold encI at hc1
            rw [← hbel.cell (p := ⟨b, o + k, none⟩) hb] at hc1
            have hsz := hbel.size
            have hy9 : (y : Int) ≤ 9 := by omega
            have hnb : n ≤ 1099511627777 := by omega
            clear hti eg hy HC HX HD Hstart hln hln' htl
            go_wp2_with (at_builtin; refine wpList_app1 hown _ rfl _ _ 208 rfl i1 (.int .u8 0) 1 Tryz.underlying208 hi' hz0' hz1' hz2' rfl rfl rfl rfl (by unfold maxLen; omega) (by omega) (by omega) ?_; intro v' w' hown' hb')
            go_roundw
            case rel => exact ⟨k, n + 1, l ++ [dch y], by omega, rfl, own_byte hown' (by omega) (by omega), HS, hbel.trans hb'⟩
            case measure => simp [intOf]
theorem text_any (neg : Bool) (A : Option Addr) (ca : Nat) (xs : List Nat) (w : World) (hA : SlA encI w A xs) (ha : ∀ d ∈ xs, d < 10) (hla : xs.length ≤ 1099511627776) :
    Calls Tryz.prog 145 #[.slice A xs.length ca, .bool neg] w fun e w' => e = .returned (.string ⟨(Lib.itoa (sgn neg (vl 10 xs))).toArray⟩) ∧ Below w.heap.size w w' := by
  cases neg
  · exact text_false A ca xs w hA ha hla
  · exact text_true A ca xs w hA ha hla
end Go.Proofs.YtceooffedkalnaaGreatDoor
/- The walks of the reference of layer 1: integers. -/
namespace Go.Proofs.YtceooffedkalnaaGreatDoor
open Go Go.RowKit
theorem digits_can (s : ByteArray) (h : chk s.data.toList = 0) (hlen : s.size ≤ 1099511627776) (w : World) :
    Calls Tryz.prog 105 #[.string s] w fun e w' => ∃ A c xs, e = .returned (.tuple #[.slice A xs.length c, .bool (ngB s.data.toList), .bool true]) ∧ SlA encI w' A xs ∧ (∀ d ∈ xs, d < 10) ∧ xs.length ≤ 1000 ∧ num s.data.toList = sgn (ngB s.data.toList) (vl 10 xs) ∧ Below w.heap.size w w' := by
  refine (digits_yes s w (by rw [h]; decide) hlen).mono ?_
  rintro e w' ⟨v, rfl, hown, hb⟩
  obtain ⟨A, c, rfl, hn, hS⟩ := SlA.of_own hown
  obtain ⟨h1, h2⟩ := bod_len_of_chk h
  refine ⟨A, c, dgs (bod s.data.toList), by rw [dgs_length], hS, h2, by rw [dgs_length]; exact h1, rfl, hb⟩
theorem both_any (s t : ByteArray) (hs : s.size ≤ 1099511627776) (ht : t.size ≤ 1099511627776) (w : World) :
    Calls Tryz.prog 142 #[.string s, .string t] w fun e w' => e = .returned (.int .i64 (bothE s.data.toList t.data.toList)) ∧ Below w.heap.size w w' := by
  have CS := Lib.hid (fun W => refCheck_any s W hs)
  have CT := Lib.hid (fun W => refCheck_any t W ht)
  unfold bothE
  obtain ⟨x, hx⟩ : ∃ x, chk s.data.toList = x := ⟨_, rfl⟩
  obtain ⟨y, hy⟩ : ∃ y, chk t.data.toList = y := ⟨_, rfl⟩
  rw [hx] at CS ⊢
  rw [hy] at CT ⊢
  clear hx hy hs ht
  by_cases h0 : x = 0
  · subst h0
    rw [if_pos rfl]
    go_enter Tryz.func142, Tryz.ntmps142
    go_wp2_with (first | (go_at_call 169; (with_reducible refine (CS.out _).mono ?_); rintro e w1 ⟨rfl, hb1⟩) | (go_at_call 169; (with_reducible refine (CT.out _).mono ?_); rintro e w2 ⟨rfl, hb2⟩))
    go_ret
    exact ⟨rfl, bt hb1 hb2⟩
  · rw [if_neg h0]
    have h1 : (x == 0) = false := by rw [beq_eq_false_iff_ne]; exact h0
    have h2 : (x != 0) = true := by rw [bne_iff_ne]; exact h0
    clear h0
    go_enter Tryz.func142, Tryz.ntmps142
    go_wp2_with fail
    refine (CS.out _).mono ?_
    rintro e w1 ⟨rfl, hb1⟩
    go_wp2_with fail
    refine (CS.out _).mono ?_
    rintro e w2 ⟨rfl, hb2⟩
    go_wp2
    go_ret
    exact ⟨rfl, bt hb1 hb2⟩
theorem result_any (neg : Bool) (A : Option Addr) (ca : Nat) (xs : List Nat) (ha : ∀ d ∈ xs, d < 10) (hla : xs.length ≤ 549755813888) (R : List UInt8 × Int) (hR : limS (sgn neg (vl 10 xs)) = R) (w : World) (hA : SlA encI w A xs) :
    Calls Tryz.prog 172 #[.slice A xs.length ca, .bool neg] w fun e w' => e = .returned (.tuple #[.string ⟨R.1.toArray⟩, .int .i64 R.2]) ∧ Below w.heap.size w w' := by
  have HT := Lib.hid (text_any neg A ca xs w hA ha (by omega))
  have hl := itoa_len neg _ _ (vl_lt 10 xs ha)
  unfold limS at hR
  obtain ⟨z, hz⟩ : ∃ z, sgn neg (vl 10 xs) = z := ⟨_, rfl⟩
  rw [hz] at HT hR hl
  have HC := Lib.hid (fun W => refCheck_any ⟨(Lib.itoa z).toArray⟩ W (by show (Lib.itoa z).length ≤ _; omega))
  rw [chk_itoa] at HC
  obtain ⟨l, hl'⟩ : ∃ l, Lib.itoa z = l := ⟨_, rfl⟩
  rw [hl'] at HT HC hR
  clear hl hl' hz
  by_cases hb : z.natAbs < lim
  · rw [if_pos hb] at HC hR
    subst hR
    clear hb
    go_enter Tryz.func172, Tryz.ntmps172
    go_wp2_with (first | (go_at_call 145; refine HT.out.mono ?_; rintro e w1 ⟨rfl, hb1⟩) | (go_at_call 169; (with_reducible refine (HC.out _).mono ?_); rintro e w2 ⟨rfl, hb2⟩))
    go_ret2
    exact ⟨rfl, bt hb1 hb2⟩
  · rw [if_neg hb] at HC hR
    subst hR
    clear hb
    go_enter Tryz.func172, Tryz.ntmps172
    go_wp2_with (first | (go_at_call 145; refine HT.out.mono ?_; rintro e w1 ⟨rfl, hb1⟩) | (go_at_call 169; (with_reducible refine (HC.out _).mono ?_); rintro e w2 ⟨rfl, hb2⟩))
    go_ret2
    exact ⟨rfl, bt hb1 hb2⟩
theorem sgn_not (neg : Bool) (u : Nat) : sgn (!neg) u = -(sgn neg u) := by cases neg <;> simp [sgn]
theorem negative_any (s : ByteArray) (h : chk s.data.toList = 0) (hlen : s.size ≤ 1099511627776) (w : World) :
    Calls Tryz.prog 187 #[.string s] w fun e w' => e = .returned (.string ⟨(Lib.itoa (-(num s.data.toList))).toArray⟩) ∧ Below w.heap.size w w' := by
  have HD := Lib.hid (digits_can s h hlen)
  obtain ⟨z, hz⟩ : ∃ z, num s.data.toList = z := ⟨_, rfl⟩
  obtain ⟨g, hg⟩ : ∃ g, ngB s.data.toList = g := ⟨_, rfl⟩
  rw [hz, hg] at HD
  rw [hz]
  clear hz hg h
  go_enter Tryz.func187, Tryz.ntmps187
  go_wp2_with (first | (go_at_call 105; refine (HD.out _).mono ?_; rintro e w1 ⟨A, c, xs, rfl, hS, hd, hl, hn, hb1⟩; have HD1 := Lib.hid hd; have HN1 := Lib.hid hn; clear hd hn) | (go_at_call 145; refine (text_any _ _ _ _ _ hS HD1.out (by omega)).mono ?_; rintro e w2 ⟨rfl, hb2⟩))
  go_ret
  exact ⟨ret_str (by rw [sgn_not, ← HN1.out]), bt hb1 hb2⟩
theorem sgn_add (g : Bool) (x y : Nat) : sgn g x + sgn g y = sgn g (x + y) := by cases g <;> simp [sgn] <;> omega
theorem sgn_mix (g : Bool) (x y : Nat) (h : y ≤ x) : sgn g x + sgn (!g) y = sgn g (x - y) := by cases g <;> simp [sgn] <;> omega
theorem sgn_mix' (g : Bool) (x y : Nat) (h : x ≤ y) : sgn g x + sgn (!g) y = sgn (!g) (y - x) := by cases g <;> simp [sgn] <;> omega
theorem own_sl {w : World} {base e : TypeId} {v : Value} {os : List Nat} (h : w.ownsRow base e 1 v os.length (os.map encI)) : ∃ A c, v = .slice A os.length c ∧ SlA encI w A os := by
  obtain ⟨A, c, h1, _, h2⟩ := SlA.of_own h
  exact ⟨A, c, h1, h2⟩
set_option maxHeartbeats 800000 in
theorem refAdd_err (s t : ByteArray) (hs : s.size ≤ 1099511627776) (ht : t.size ≤ 1099511627776) (h : ¬ bothE s.data.toList t.data.toList = 0) (w : World) :
    Calls Tryz.prog 148 #[.string s, .string t] w fun e w' => e = .returned (.tuple #[.string ⟨#[]⟩, .int .i64 (bothE s.data.toList t.data.toList)]) ∧ Below w.heap.size w w' := by
  have HB := Lib.hid (both_any s t hs ht w)
  obtain ⟨x, hx⟩ : ∃ x, bothE s.data.toList t.data.toList = x := ⟨_, rfl⟩
  rw [hx] at HB h ⊢
  have h1 : (x == 0) = false := by rw [beq_eq_false_iff_ne]; exact h
  have h2 : (x != 0) = true := by rw [bne_iff_ne]; exact h
  clear h hx
  go_enter Tryz.func148, Tryz.ntmps148
  go_wp2_with (go_at_call 142; refine HB.out.mono ?_; rintro e w1 ⟨rfl, hb1⟩)
  go_ret2
  exact ⟨rfl, hb1⟩
set_option maxHeartbeats 800000 in
theorem refAdd_ok (s t : ByteArray) (hs : s.size ≤ 1099511627776) (ht : t.size ≤ 1099511627776) (h : bothE s.data.toList t.data.toList = 0) (R : List UInt8 × Int) (hR : limS (num s.data.toList + num t.data.toList) = R) (w : World) :
    Calls Tryz.prog 148 #[.string s, .string t] w fun e w' => e = .returned (.tuple #[.string ⟨R.1.toArray⟩, .int .i64 R.2]) ∧ Below w.heap.size w w' := by
  have HB := Lib.hid (both_any s t hs ht w)
  rw [h] at HB
  obtain ⟨h1, h2⟩ := bothE_zero h
  have HD := Lib.hid (digits_can s h1 hs)
  have HE := Lib.hid (digits_can t h2 ht)
  obtain ⟨x, hx⟩ : ∃ x, num s.data.toList = x := ⟨_, rfl⟩
  obtain ⟨y, hy⟩ : ∃ y, num t.data.toList = y := ⟨_, rfl⟩
  obtain ⟨g, hg⟩ : ∃ g, ngB s.data.toList = g := ⟨_, rfl⟩
  obtain ⟨k, hk⟩ : ∃ k, ngB t.data.toList = k := ⟨_, rfl⟩
  rw [hx, hg] at HD
  rw [hy, hk] at HE
  rw [hx, hy] at hR
  clear hx hy hg hk h h1 h2 hs ht
  have HR := Lib.hid hR
  clear hR
  by_cases hgk : g = k
  · subst hgk
    have hbeq : (g == g) = true := by simp
    go_enter Tryz.func148, Tryz.ntmps148
    go_wp2_with (first
      | (go_at_call 142; refine HB.out.mono ?_; rintro e w1 ⟨rfl, hb1⟩)
      | (go_at_call 105; (with_reducible refine (HD.out _).mono ?_); rintro e w2 ⟨A, c, xs, rfl, hS, hd, hl, hn, hb2⟩; have HD1 := Lib.hid hd; have HN1 := Lib.hid hn; clear hd hn)
      | (go_at_call 105; (with_reducible refine (HE.out _).mono ?_); rintro e w3 ⟨B, d, ys, rfl, hS', hd', hl', hn', hb3⟩; have HD2 := Lib.hid hd'; have HN2 := Lib.hid hn'; clear hd' hn')
      | (go_at_call 173; refine (plus_any _ _ _ _ _ _ _ (hS.below hb3) hS' HD1.out HD2.out (by omega) (by omega)).mono ?_; rintro e w4 ⟨v, os, rfl, hown, hb4, hlen, hd4, hv4⟩; obtain ⟨C, c4, rfl, hS4⟩ := own_sl hown; have HD4 := Lib.hid hd4; have HN4 := Lib.hid hv4; have hlen4 := Nat.le_of_eq hlen; clear hd4 hv4 hown hlen)
      | (go_at_call 172; refine (result_any _ _ _ _ HD4.out (by omega) R (by rw [HN4.out, ← sgn_add, ← HN1.out, ← HN2.out]; exact HR.out) _ hS4).mono ?_; rintro e w5 ⟨rfl, hb5⟩))
    go_ret2
    exact ⟨rfl, bt (bt (bt (bt hb1 hb2) hb3) hb4) hb5⟩
  · obtain rfl : k = !g := by cases g <;> cases k <;> simp_all
    have hbeq : (g == !g) = false := by cases g <;> rfl
    clear hgk
    go_enter Tryz.func148, Tryz.ntmps148
    go_wp2_with (first
      | (go_at_call 142; refine HB.out.mono ?_; rintro e w1 ⟨rfl, hb1⟩)
      | (go_at_call 105; (with_reducible refine (HD.out _).mono ?_); rintro e w2 ⟨A, c, xs, rfl, hS, hd, hl, hn, hb2⟩; have HD1 := Lib.hid hd; have HN1 := Lib.hid hn; clear hd hn)
      | (go_at_call 105; (with_reducible refine (HE.out _).mono ?_); rintro e w3 ⟨B, d, ys, rfl, hS', hd', hl', hn', hb3⟩; have HD2 := Lib.hid hd'; have HN2 := Lib.hid hn'; clear hd' hn'))
    refine (greater_any _ _ _ _ _ _ _ (hS.below hb3) hS' HD1.out HD2.out (by omega) (by omega)).mono ?_
    rintro e w4 ⟨rfl, rfl⟩
    by_cases hle : vl 10 ys ≤ vl 10 xs
    · have hc : 0 ≤ cmpN (vl 10 xs) (vl 10 ys) := by unfold cmpN; split <;> (try split) <;> omega
      have HLE := Lib.hid hle
      clear hle
      generalize cmpN (vl 10 xs) (vl 10 ys) = r at hc ⊢
      go_wp2_with (first
        | (go_at_call 171; refine (minus_any _ _ _ _ _ _ _ (hS.below hb3) (hS') HD1.out HD2.out (by omega) HLE.out).mono ?_; rintro e w4 ⟨v, os, rfl, hown, hb4, hlen, hd4, hv4⟩; obtain ⟨C, c4, rfl, hS4⟩ := own_sl hown; have HD4 := Lib.hid hd4; have HN4 := Lib.hid hv4; have hlen4 := Nat.le_of_eq hlen; clear hd4 hv4 hown hlen)
        | (go_at_call 172; refine (result_any _ _ _ _ HD4.out (by omega) R (by rw [HN4.out, ← sgn_mix g _ _ HLE.out, ← HN1.out, ← HN2.out]; exact HR.out) _ hS4).mono ?_; rintro e w5 ⟨rfl, hb5⟩))
      go_ret2
      exact ⟨rfl, bt (bt (bt (bt hb1 hb2) hb3) hb4) hb5⟩
    · have hc : cmpN (vl 10 xs) (vl 10 ys) < 0 := by unfold cmpN; rw [if_neg (by omega), if_pos (by omega)]; omega
      have HLE : Hid (vl 10 xs ≤ vl 10 ys) := by show _ ≤ _; omega
      clear hle
      generalize cmpN (vl 10 xs) (vl 10 ys) = r at hc ⊢
      go_wp2_with (first
        | (go_at_call 171; refine (minus_any _ _ _ _ _ _ _ (hS') (hS.below hb3) HD2.out HD1.out (by omega) HLE.out).mono ?_; rintro e w4 ⟨v, os, rfl, hown, hb4, hlen, hd4, hv4⟩; obtain ⟨C, c4, rfl, hS4⟩ := own_sl hown; have HD4 := Lib.hid hd4; have HN4 := Lib.hid hv4; have hlen4 := Nat.le_of_eq hlen; clear hd4 hv4 hown hlen)
        | (go_at_call 172; refine (result_any _ _ _ _ HD4.out (by omega) R (by rw [HN4.out, ← sgn_mix' g _ _ HLE.out, ← HN1.out, ← HN2.out]; exact HR.out) _ hS4).mono ?_; rintro e w5 ⟨rfl, hb5⟩))
      go_ret2
      exact ⟨rfl, bt (bt (bt (bt hb1 hb2) hb3) hb4) hb5⟩
end Go.Proofs.YtceooffedkalnaaGreatDoor
/- The walks of the reference of layer 1: products. -/
namespace Go.Proofs.YtceooffedkalnaaGreatDoor
open Go Go.RowKit
theorem own_set' {w : World} {base e g n cap : Nat} {os : List Nat} (h : w.ownsRow base e 1 (.slice (some ⟨g, 0, none⟩) n cap) n (os.map encI)) (j v : Nat) {z : Int} (hz : (v : Int) = z) :
    (w.setCell ⟨g, j, none⟩ (.int .i64 z)).ownsRow base e 1 (.slice (some ⟨g, 0, none⟩) n cap) n ((os.set j v).map encI) := by
  have h1 := (h.stored j (.int .i64 z)).1
  have e1 : (os.set j v).map encI = (os.map encI).set j (.int .i64 z) := by rw [List.map_set, ← hz]; rfl
  rw [e1]; exact h1
theorem own_set {w : World} {base e g n cap : Nat} {os : List Nat} (h : w.ownsRow base e 1 (.slice (some ⟨g, 0, none⟩) n cap) n (os.map encI)) (j v : Nat) {z : Int} (hz : (v : Int) = z) :
    ((w.setCell ⟨g, j, none⟩ (.int .i64 z)).drew).ownsRow base e 1 (.slice (some ⟨g, 0, none⟩) n cap) n ((os.set j v).map encI) := by
  have h1 := (h.stored j (.int .i64 z)).1
  have e1 : (os.set j v).map encI = (os.map encI).set j (.int .i64 z) := by rw [List.map_set, ← hz]; rfl
  rw [e1]; exact h1.drew
set_option maxRecDepth 100000 in
set_option maxHeartbeats 800000 in
theorem times_any (A B : Option Addr) (ca cb : Nat) (xs ys : List Nat) (w : World) (hA : SlA encI w A xs) (hB : SlA encI w B ys) (ha : ∀ d ∈ xs, d < 10) (hb : ∀ d ∈ ys, d < 10) (hla : xs.length ≤ 1073741824) (hlb : ys.length ≤ 1073741824) :
    Calls Tryz.prog 174 #[.slice A xs.length ca, .slice B ys.length cb] w fun e w' => ∃ v os, e = .returned v ∧ w'.ownsRow w.heap.size 3 1 v os.length (os.map encI) ∧ Below w.heap.size w w' ∧ os.length = xs.length + ys.length ∧ (∀ d ∈ os, d < 10) ∧ vl 10 os = vl 10 xs * vl 10 ys := by
  obtain ⟨i0, hi, hz0, hz1, hz2⟩ := info_parts Tryz.info3'
  have HA := Lib.hid ha
  have HB := Lib.hid hb
  clear ha hb
  go_enter Tryz.func174, Tryz.ntmps174
  go_wp2_with (at_make; refine wpList_make_full _ rfl _ _ 145 rfl w.heap.size 3 i0 (.int .i64 0) 1 Tryz.underlying145 hi hz0 hz1 _ _ _ _ (xs.length + ys.length) rfl rfl (by omega) (by omega) (by rw [hz2]; omega) (by unfold maxLen; omega) (Nat.le_refl _) ?_; intro w1 hown hg1)
  have hb1 : Below w.heap.size w w1 := (Below.refl _ _).grown hg1 (Nat.le_refl _) (fun k hk => by cases hk)
  have hown : w1.ownsRow w.heap.size 3 1 (.slice (some ⟨w.heap.size, 0, none⟩) (xs.length + ys.length) (xs.length + ys.length)) (xs.length + ys.length) ((List.replicate (xs.length + ys.length) 0).map encI) := by
    have e : (madeCells (Value.int .i64 0).cells ((xs.length + ys.length) * 1)).toList = (List.replicate (xs.length + ys.length) 0).map encI := by
      rw [Nat.mul_one]
      show (madeCells #[Value.int .i64 0] _).toList = _
      rw [toList_madeCells_one]; simp [encI]
    rw [e] at hown; exact hown
  have hP : Hid (vl 10 xs * vl 10 ys < 10 ^ (xs.length + ys.length)) := by
    show _ < _
    rw [Nat.pow_add]
    exact Nat.mul_lt_mul'' (vl_lt 10 xs HA.out) (vl_lt 10 ys HB.out)
  go_loopw [6] (fun i wr => ∃ (k : Nat) (os : List Nat), k ≤ xs.length ∧ i = .int .i64 k ∧ wr.ownsRow w.heap.size 3 1 (.slice (some ⟨w.heap.size, 0, none⟩) (xs.length + ys.length) (xs.length + ys.length)) (xs.length + ys.length) (os.map encI) ∧ Hid (TmInv xs ys os k 0) ∧ Below w.heap.size w wr) (fun i _ => xs.length - (intOf i).toNat)
  case atStart => exact ⟨0, _, by omega, rfl, hown, TmInv.start xs ys, hb1⟩
  case round =>
    obtain ⟨k, os, hk, rfl, hown, hinv, hbel⟩ := hrel
    obtain ⟨wo, rfl⟩ : ∃ wo : World, wo = wr := ⟨_, rfl⟩
    by_cases hlt : k < xs.length
    · go_wp2
      go_loopw [7] (fun j wr => ∃ (j' : Nat) (os : List Nat), j' ≤ ys.length ∧ j = .int .i64 j' ∧ wr.ownsRow w.heap.size 3 1 (.slice (some ⟨w.heap.size, 0, none⟩) (xs.length + ys.length) (xs.length + ys.length)) (xs.length + ys.length) (os.map encI) ∧ Hid (TmInv xs ys os k j') ∧ Below w.heap.size w wr) (fun j _ => ys.length - (intOf j).toNat)
      case atStart => exact ⟨0, os, by omega, rfl, hown, hinv, hbel⟩
      case round =>
        clear hown hinv hbel
        obtain ⟨j, os, hj, rfl, hown, hinv, hbel⟩ := hrel
        by_cases hjl : j < ys.length
        · obtain ⟨b1, o1, rfl, hb1', hc1⟩ := (hA.below hbel).get hlt
          obtain ⟨b2, o2, rfl, hb2', hc2⟩ := (hB.below hbel).get hjl
          have hol := hinv.out.1
          have hij : k + j < os.length := by omega
          have hc3 : wr.cell? ⟨w.heap.size, k + j, none⟩ = some (encI (os.getD (k + j) 0)) := by
            rw [hown.cellAt (k + j) (by omega), List.getElem?_map, List.getElem?_eq_getElem hij]
            simp [List.getD_eq_getElem?_getD, hij]
          have hf3 := hown.frozenAt (k + j)
          have hz := hinv.out.2.2.2 (k + j) (Nat.le_refl _)
          have ex : xs[k] = xs.getD k 0 := by simp [List.getD_eq_getElem?_getD, hlt]
          have ey : ys[j] = ys.getD j 0 := by simp [List.getD_eq_getElem?_getD, hjl]
          have hx9 : xs.getD k 0 < 10 := by rw [← ex]; exact HA.out _ (List.getElem_mem hlt)
          have hy9 : ys.getD j 0 < 10 := by rw [← ey]; exact HB.out _ (List.getElem_mem hjl)
          rw [ex] at hc1
          rw [ey] at hc2
          have HI := Lib.hid (hinv.out.step hlt hjl hx9 hy9)
          clear hinv ex ey
          generalize xs.getD k 0 = x at *
          generalize ys.getD j 0 = y at *
          generalize os.getD (k + j) 0 = z at *
          have hxy : x * y ≤ 9 * 9 := Nat.mul_le_mul (by omega) (by omega)
          have hxy1 : (x : Int) * (y : Int) ≤ 81 := by rw [← Int.natCast_mul]; omega
          have hxy2 : 0 ≤ (x : Int) * (y : Int) := by rw [← Int.natCast_mul]; omega
          have hz1 : (z : Int) ≤ 81 * 1073741824 := by omega
          have hk0 : (k : Int) < (xs.length : Int) := by omega
          have hj0 : (j : Int) < (ys.length : Int) := by omega
          unfold encI at hc1 hc2 hc3
          clear hxy hx9 hy9 hA hB
          go_wp2
          go_region
          go_wp2
          go_roundw
          case rel => exact ⟨j + 1, _, by omega, by go_num, own_set hown (k + j) (z + x * y) (by rw [Int.natCast_add, Int.natCast_mul]), HI, (hbel.setCell (p := ⟨w.heap.size, k + j, none⟩) (Nat.le_refl _) _).drew⟩
          case measure => simp [intOf]; omega
        · obtain rfl : j = ys.length := by omega
          have HN := Lib.hid hinv.out.next
          clear hinv
          go_wp2
          go_roundw
          case rel => exact ⟨k + 1, os, by omega, by go_num, hown, HN, hbel⟩
          case measure => simp [intOf]; omega
    · obtain rfl : k = xs.length := by omega
      obtain ⟨l1, l2, l3⟩ := hinv.out.last
      have HC := Lib.hid (CrInv.start l1 l2 l3)
      clear l1 l2 l3 hinv
      obtain ⟨N, hN⟩ : ∃ N, xs.length + ys.length = N := ⟨_, rfl⟩
      obtain ⟨P, hPe⟩ : ∃ P, vl 10 xs * vl 10 ys = P := ⟨_, rfl⟩
      obtain ⟨M, hMe⟩ : ∃ M, 81 * (xs.length + 1) = M := ⟨_, rfl⟩
      have hM9 : M ≤ 81 * 1073741825 := by omega
      rw [hN, hPe, hMe] at HC
      rw [hN, hPe] at hP
      rw [hN] at hown
      have HNE := Lib.hid hN
      have hNb : N ≤ 2147483648 := by omega
      have HPE := Lib.hid hPe
      clear hPe hMe
      go_wp2
      rw [hN]
      clear hN
      go_loopw [8] (fun i wr => ∃ (k : Nat) (os : List Nat), k ≤ N ∧ i = .int .i64 k ∧ wr.ownsRow w.heap.size 3 1 (.slice (some ⟨w.heap.size, 0, none⟩) N N) N (os.map encI) ∧ Hid (CrInv P M N os k) ∧ Below w.heap.size w wr) (fun i _ => N - (intOf i).toNat)
      case atStart => exact ⟨0, os, by omega, rfl, hown, HC, hbel⟩
      case round =>
        clear hown hbel HC
        obtain ⟨k, os, hkN, rfl, hown, hinv, hbel⟩ := hrel
        by_cases hlt2 : k + 1 < N
        · have hol := hinv.out.1
          have hij0 : k < os.length := by omega
          have hij : k + 1 < os.length := by omega
          have hc3 : wr.cell? ⟨w.heap.size, k + 1, none⟩ = some (encI (os.getD (k + 1) 0)) := by
            rw [hown.cellAt (k + 1) (by omega), List.getElem?_map, List.getElem?_eq_getElem hij]
            simp [List.getD_eq_getElem?_getD, hij]
          have hc4 : wr.cell? ⟨w.heap.size, k, none⟩ = some (encI (os.getD k 0)) := by
            rw [hown.cellAt k (by omega), List.getElem?_map, List.getElem?_eq_getElem hij0]
            simp [List.getD_eq_getElem?_getD, hij0]
          have hf3 := hown.frozenAt (k + 1)
          obtain ⟨g1, g2⟩ := hinv.out.step hlt2
          have HI := Lib.hid g2
          have hb3 := hinv.out.2.2.2.1 (k + 1) (by omega)
          have hb4 := hinv.out.2.2.2.2
          have hgk : (os.set (k + 1) (os.getD (k + 1) 0 + os.getD k 0 / 10)).getD k 0 = os.getD k 0 := g1
          have hl2 : k < (os.set (k + 1) (os.getD (k + 1) 0 + os.getD k 0 / 10)).length := by simp; exact hij0
          clear g2 hinv g1 hol
          generalize os.getD (k + 1) 0 = z1 at *
          generalize os.getD k 0 = z0 at *
          have hz1 : (z1 : Int) ≤ 87241523200 := by omega
          have hz0' : (z0 : Int) ≤ 174483046400 := by omega
          have hk0 : (k : Int) + 1 < (N : Int) := by omega
          unfold encI at hc3 hc4
          have own2 := own_set hown (k + 1) (z1 + z0 / 10) (z := (z1 : Int) + (z0 : Int) / 10) (by omega)
          have bel2 : Below w.heap.size w (wr.setCell ⟨w.heap.size, k + 1, none⟩ (.int .i64 ((z1 : Int) + (z0 : Int) / 10))).drew := (hbel.setCell (p := ⟨w.heap.size, k + 1, none⟩) (Nat.le_refl _) _).drew
          obtain ⟨w2, hw2⟩ : ∃ w2, (wr.setCell ⟨w.heap.size, k + 1, none⟩ (.int .i64 ((z1 : Int) + (z0 : Int) / 10))).drew = w2 := ⟨_, rfl⟩
          rw [hw2] at own2 bel2
          have hc5 : w2.cell? ⟨w.heap.size, k, none⟩ = some (.int .i64 (z0 : Int)) := by
            rw [own2.cellAt k (by omega), List.getElem?_map, List.getElem?_eq_getElem hl2]
            simp only [List.getD_eq_getElem?_getD, List.getElem?_eq_getElem hl2, Option.getD_some] at hgk
            rw [hgk]; rfl
          have hf5 := own2.frozenAt k
          have HW2 := Lib.hid hw2
          clear hw2 hgk hl2
          go_wp2
          go_region
          rw [HW2.out]
          clear HW2 hc3 hc4 hf3 hown hbel
          go_wp2
          go_roundw
          case rel => exact ⟨k + 1, _, by omega, by go_num, own_set' own2 k (z0 % 10) (by omega), HI, bel2.setCell (p := ⟨w.heap.size, k, none⟩) (Nat.le_refl _) _⟩
          case measure => simp [intOf]; omega
        · obtain ⟨f1, f2, f3⟩ := hinv.out.last (by omega) hP.out
          have HF1 := Lib.hid f1
          have HF2 := Lib.hid f2
          have HF3 := Lib.hid f3
          clear f1 f2 f3 hinv
          go_wp2
          go_ret
          exact ⟨_, os, rfl, by rw [HF1.out]; exact hown, hbel, by rw [HF1.out, HNE.out], HF2.out, by rw [HF3.out, HPE.out]⟩
end Go.Proofs.YtceooffedkalnaaGreatDoor
/- The walks of the reference of layer 1: the functions that the chapter lists. -/
namespace Go.Proofs.YtceooffedkalnaaGreatDoor
open Go Go.RowKit
theorem refAdd_any (s t : ByteArray) (hs : s.size ≤ 1099511627776) (ht : t.size ≤ 1099511627776) (w : World) :
    Calls Tryz.prog 148 #[.string s, .string t] w fun e w' => e = .returned (.tuple #[.string ⟨(opS (· + ·) s.data.toList t.data.toList).1.toArray⟩, .int .i64 (opS (· + ·) s.data.toList t.data.toList).2]) ∧ Below w.heap.size w w' := by
  by_cases h : bothE s.data.toList t.data.toList = 0
  · exact refAdd_ok s t hs ht h _ (by rw [opS_ok h]) w
  · rw [opS_err h]; exact refAdd_err s t hs ht h w
theorem sgn_mul (g k : Bool) (x y : Nat) : sgn g x * sgn k y = sgn (g != k) (x * y) := by cases g <;> cases k <;> simp [sgn, Int.neg_mul, Int.mul_neg]
set_option maxHeartbeats 800000 in
theorem refMul_any (s t : ByteArray) (hs : s.size ≤ 1099511627776) (ht : t.size ≤ 1099511627776) (w : World) :
    Calls Tryz.prog 149 #[.string s, .string t] w fun e w' => e = .returned (.tuple #[.string ⟨(opS (· * ·) s.data.toList t.data.toList).1.toArray⟩, .int .i64 (opS (· * ·) s.data.toList t.data.toList).2]) ∧ Below w.heap.size w w' := by
  have HB := Lib.hid (both_any s t hs ht w)
  by_cases h : bothE s.data.toList t.data.toList = 0
  · rw [opS_ok h]
    rw [h] at HB
    obtain ⟨h1, h2⟩ := bothE_zero h
    have HD := Lib.hid (digits_can s h1 hs)
    have HE := Lib.hid (digits_can t h2 ht)
    obtain ⟨R, hR⟩ : ∃ R, limS (num s.data.toList * num t.data.toList) = R := ⟨_, rfl⟩
    rw [hR]
    obtain ⟨x, hx⟩ : ∃ x, num s.data.toList = x := ⟨_, rfl⟩
    obtain ⟨y, hy⟩ : ∃ y, num t.data.toList = y := ⟨_, rfl⟩
    obtain ⟨g, hg⟩ : ∃ g, ngB s.data.toList = g := ⟨_, rfl⟩
    obtain ⟨k, hk⟩ : ∃ k, ngB t.data.toList = k := ⟨_, rfl⟩
    rw [hx, hg] at HD
    rw [hy, hk] at HE
    rw [hx, hy] at hR
    clear hx hy hg hk h h1 h2 hs ht
    have HR := Lib.hid hR
    clear hR
    cases g <;> cases k
    all_goals
      go_enter Tryz.func149, Tryz.ntmps149
      go_wp2_with (first
        | (go_at_call 142; refine HB.out.mono ?_; rintro e w1 ⟨rfl, hb1⟩)
        | (go_at_call 105; (with_reducible refine (HD.out _).mono ?_); rintro e w2 ⟨A, c, xs, rfl, hS, hd, hl, hn, hb2⟩; have HD1 := Lib.hid hd; have HN1 := Lib.hid hn; clear hd hn)
        | (go_at_call 105; (with_reducible refine (HE.out _).mono ?_); rintro e w3 ⟨B, d, ys, rfl, hS', hd', hl', hn', hb3⟩; have HD2 := Lib.hid hd'; have HN2 := Lib.hid hn'; clear hd' hn')
        | (go_at_call 174; refine (times_any _ _ _ _ _ _ _ (hS.below hb3) hS' HD1.out HD2.out (by omega) (by omega)).mono ?_; rintro e w4 ⟨v, os, rfl, hown, hb4, hlen, hd4, hv4⟩; obtain ⟨C, c4, rfl, hS4⟩ := own_sl hown; have HD4 := Lib.hid hd4; have HN4 := Lib.hid hv4; have hlen4 := Nat.le_of_eq hlen; clear hd4 hv4 hown hlen)
        | (go_at_call 172; refine (result_any _ _ _ _ HD4.out (by omega) R (by rw [HN4.out]; exact (congrArg limS (by rw [HN1.out, HN2.out, sgn_mul]; rfl)).trans HR.out) _ hS4).mono ?_; rintro e w5 ⟨rfl, hb5⟩))
      go_ret2
      exact ⟨rfl, bt (bt (bt (bt hb1 hb2) hb3) hb4) hb5⟩
  · rw [opS_err h]
    obtain ⟨x, hx⟩ : ∃ x, bothE s.data.toList t.data.toList = x := ⟨_, rfl⟩
    rw [hx] at HB h ⊢
    have h1 : (x == 0) = false := by rw [beq_eq_false_iff_ne]; exact h
    have h2 : (x != 0) = true := by rw [bne_iff_ne]; exact h
    clear h hx
    go_enter Tryz.func149, Tryz.ntmps149
    go_wp2_with (go_at_call 142; refine HB.out.mono ?_; rintro e w1 ⟨rfl, hb1⟩)
    go_ret2
    exact ⟨rfl, hb1⟩
theorem cmp_pp (x y : Nat) : cmpZ (sgn false x) (sgn false y) = cmpN x y := by
  unfold cmpZ cmpN sgn; simp only [Bool.false_eq_true, if_false]
  rcases Nat.lt_trichotomy x y with h | h | h
  · rw [if_pos (by omega), if_neg (by omega), if_pos h]
  · rw [if_neg (by omega), if_neg (by omega), if_neg (by omega), if_neg (by omega)]
  · rw [if_neg (by omega), if_pos (by omega), if_pos h]
theorem cmp_nn (x y : Nat) : cmpZ (sgn true x) (sgn true y) = cmpN y x := by
  unfold cmpZ cmpN sgn; simp only [if_true]
  rcases Nat.lt_trichotomy x y with h | h | h
  · rw [if_neg (by omega), if_pos (by omega), if_pos h]
  · rw [if_neg (by omega), if_neg (by omega), if_neg (by omega), if_neg (by omega)]
  · rw [if_pos (by omega), if_neg (by omega), if_pos h]
set_option maxHeartbeats 800000 in
theorem refCompare_any (s t : ByteArray) (hs : s.size ≤ 1099511627776) (ht : t.size ≤ 1099511627776) (w : World) :
    Calls Tryz.prog 152 #[.string s, .string t] w fun e w' => e = .returned (.tuple #[.int .i64 (cmpS s.data.toList t.data.toList).1, .int .i64 (cmpS s.data.toList t.data.toList).2]) ∧ Below w.heap.size w w' := by
  have HB := Lib.hid (both_any s t hs ht w)
  unfold cmpS
  by_cases h : bothE s.data.toList t.data.toList = 0
  · rw [if_pos h]
    rw [h] at HB
    obtain ⟨h1, h2⟩ := bothE_zero h
    have HD := Lib.hid (digits_can s h1 hs)
    have HE := Lib.hid (digits_can t h2 ht)
    obtain ⟨p1, p2⟩ := ng_num h1
    obtain ⟨q1, q2⟩ := ng_num h2
    obtain ⟨x, hx⟩ : ∃ x, num s.data.toList = x := ⟨_, rfl⟩
    obtain ⟨y, hy⟩ : ∃ y, num t.data.toList = y := ⟨_, rfl⟩
    obtain ⟨g, hg⟩ : ∃ g, ngB s.data.toList = g := ⟨_, rfl⟩
    obtain ⟨k, hk⟩ : ∃ k, ngB t.data.toList = k := ⟨_, rfl⟩
    rw [hx, hg] at HD
    rw [hy, hk] at HE
    rw [hx, hg] at p1 p2
    rw [hy, hk] at q1 q2
    rw [hx, hy]
    clear hx hy hg hk h h1 h2 hs ht
    cases g <;> cases k
    · clear p1 p2 q1 q2
      go_enter Tryz.func152, Tryz.ntmps152
      go_wp2_with (first
        | (go_at_call 142; refine HB.out.mono ?_; rintro e w1 ⟨rfl, hb1⟩)
        | (go_at_call 105; (with_reducible refine (HD.out _).mono ?_); rintro e w2 ⟨A, c, xs, rfl, hS, hd, hl, hn, hb2⟩; have HD1 := Lib.hid hd; have HN1 := Lib.hid hn; clear hd hn)
        | (go_at_call 105; (with_reducible refine (HE.out _).mono ?_); rintro e w3 ⟨B, d, ys, rfl, hS', hd', hl', hn', hb3⟩; have HD2 := Lib.hid hd'; have HN2 := Lib.hid hn'; clear hd' hn')
        | (go_at_call 170; refine (greater_any _ _ _ _ _ _ _ (hS.below hb3) hS' HD1.out HD2.out (by omega) (by omega)).mono ?_; rintro e w4 ⟨rfl, rfl⟩))
      go_ret2
      exact ⟨by rw [HN1.out, HN2.out, cmp_pp]; rfl, bt (bt hb1 hb2) hb3⟩
    · have hc : Hid (cmpZ x y = 1) := by
        have := p2 rfl; have := q1 rfl
        show _ = _; unfold cmpZ; rw [if_neg (by omega), if_pos (by omega)]
      clear p1 p2 q1 q2
      go_enter Tryz.func152, Tryz.ntmps152
      go_wp2_with (first
        | (go_at_call 142; refine HB.out.mono ?_; rintro e w1 ⟨rfl, hb1⟩)
        | (go_at_call 105; (with_reducible refine (HD.out _).mono ?_); rintro e w2 ⟨A, c, xs, rfl, hS, hd, hl, hn, hb2⟩; clear hd hn)
        | (go_at_call 105; (with_reducible refine (HE.out _).mono ?_); rintro e w3 ⟨B, d, ys, rfl, hS', hd', hl', hn', hb3⟩; clear hd' hn'))
      go_ret2
      exact ⟨by rw [hc.out]; rfl, bt (bt hb1 hb2) hb3⟩
    · have hc : Hid (cmpZ x y = -1) := by
        have := p1 rfl; have := q2 rfl
        show _ = _; unfold cmpZ; rw [if_pos (by omega)]
      clear p1 p2 q1 q2
      go_enter Tryz.func152, Tryz.ntmps152
      go_wp2_with (first
        | (go_at_call 142; refine HB.out.mono ?_; rintro e w1 ⟨rfl, hb1⟩)
        | (go_at_call 105; (with_reducible refine (HD.out _).mono ?_); rintro e w2 ⟨A, c, xs, rfl, hS, hd, hl, hn, hb2⟩; clear hd hn)
        | (go_at_call 105; (with_reducible refine (HE.out _).mono ?_); rintro e w3 ⟨B, d, ys, rfl, hS', hd', hl', hn', hb3⟩; clear hd' hn'))
      go_ret2
      exact ⟨by rw [hc.out]; rfl, bt (bt hb1 hb2) hb3⟩
    · clear p1 p2 q1 q2
      go_enter Tryz.func152, Tryz.ntmps152
      go_wp2_with (first
        | (go_at_call 142; refine HB.out.mono ?_; rintro e w1 ⟨rfl, hb1⟩)
        | (go_at_call 105; (with_reducible refine (HD.out _).mono ?_); rintro e w2 ⟨A, c, xs, rfl, hS, hd, hl, hn, hb2⟩; have HD1 := Lib.hid hd; have HN1 := Lib.hid hn; clear hd hn)
        | (go_at_call 105; (with_reducible refine (HE.out _).mono ?_); rintro e w3 ⟨B, d, ys, rfl, hS', hd', hl', hn', hb3⟩; have HD2 := Lib.hid hd'; have HN2 := Lib.hid hn'; clear hd' hn')
        | (go_at_call 170; refine (greater_any _ _ _ _ _ _ _ hS' (hS.below hb3) HD2.out HD1.out (by omega) (by omega)).mono ?_; rintro e w4 ⟨rfl, rfl⟩))
      go_ret2
      exact ⟨by rw [HN1.out, HN2.out, cmp_nn]; rfl, bt (bt hb1 hb2) hb3⟩
  · rw [if_neg h]
    obtain ⟨x, hx⟩ : ∃ x, bothE s.data.toList t.data.toList = x := ⟨_, rfl⟩
    rw [hx] at HB h ⊢
    have h1 : (x == 0) = false := by rw [beq_eq_false_iff_ne]; exact h
    have h2 : (x != 0) = true := by rw [bne_iff_ne]; exact h
    clear h hx
    go_enter Tryz.func152, Tryz.ntmps152
    go_wp2_with (go_at_call 142; refine HB.out.mono ?_; rintro e w1 ⟨rfl, hb1⟩)
    go_ret2
    exact ⟨rfl, hb1⟩
end Go.Proofs.YtceooffedkalnaaGreatDoor
/- The walks of the reference of layer 1: Of and To. -/
namespace Go.Proofs.YtceooffedkalnaaGreatDoor
open Go Go.RowKit
theorem vl_drop_succ (xs : List Nat) (k : Nat) (h : k < xs.length) : vl 10 (xs.drop k) = xs[k] + 10 * vl 10 (xs.drop (k + 1)) := by
  rw [List.drop_eq_getElem_cons h]; rfl
end Go.Proofs.YtceooffedkalnaaGreatDoor

/- The walks of the reference of layer 1: Of and To. -/
import Derived.Test.YtlipjedofegciaaDoorIntR6
namespace Go.Proofs.YtlipjedofegciaaDoor
open Go Go.RowKit

def SmInv (n m : Nat) (os : List Nat) : Prop := (∀ d ∈ os, d < 10) ∧ vl 10 os + 10 ^ os.length * m = n
theorem SmInv.step {n m : Nat} {os : List Nat} (h : SmInv n m os) : SmInv n (m / 10) (os ++ [m % 10]) := by
  obtain ⟨h1, h2⟩ := h
  refine ⟨fun d hd => ?_, ?_⟩
  · rcases List.mem_append.1 hd with hd | hd
    · exact h1 d hd
    · have : d = m % 10 := by simpa using hd
      omega
  · rw [vl_snoc, List.length_append, List.length_singleton, Nat.pow_succ]
    have hm := Nat.mod_add_div m 10
    generalize m % 10 = r at *
    generalize m / 10 = q at *
    generalize 10 ^ os.length = T at *
    grind
theorem SmInv.len {n m : Nat} {os : List Nat} (h : SmInv n m os) (hm : 0 < m) (hn : n < 10000000000000000000) : os.length ≤ 18 := by
  obtain ⟨_, h2⟩ := h
  rcases Nat.lt_or_ge 18 os.length with hg | hg
  · exfalso
    have h3 : 10 ^ 19 ≤ 10 ^ os.length := Nat.pow_le_pow_right (by omega) hg
    have h4 : 10 ^ os.length * 1 ≤ 10 ^ os.length * m := Nat.mul_le_mul_left _ hm
    have h5 : (10 : Nat) ^ 19 = 10000000000000000000 := by decide
    omega
  · exact hg

set_option maxRecDepth 100000 in
set_option maxHeartbeats 800000 in
theorem small_any (n : Nat) (hn : n ≤ 9223372036854775807) (w : World) :
    Calls Tryd.prog 70 #[.int .i64 n] w fun e w' => e = .returned (.string ⟨(Lib.itoa n).toArray⟩) ∧ Below w.heap.size w w' := by
  obtain ⟨i0, hi, hz0, hz1, hz2⟩ := info_parts Tryd.info3'
  go_enter Tryd.func70, Tryd.ntmps70
  go_wp2
  go_loopw [0, 3] (fun i out wr => ∃ (m : Nat) (os : List Nat), m ≤ n ∧ os.length ≤ 19 ∧ i = .int .i64 m ∧ wr.ownsRow w.heap.size 3 1 out os.length (os.map encI) ∧ Hid (SmInv n m os) ∧ Below w.heap.size w wr) (fun i _ _ => (intOf i).toNat)
  case atStart => exact ⟨n, [], Nat.le_refl _, by simp, rfl, World.ownsRow_nil _ _ _ _, ⟨by simp, by simp [vl]⟩, Below.refl _ _⟩
  case round =>
    obtain ⟨m, os, hm, hos, rfl, hown, hinv, hbel⟩ := hrel
    by_cases h0 : 0 < m
    · have hl := hinv.out.len h0 (by omega)
      have HI := Lib.hid hinv.out.step
      have hsz := hbel.size
      clear hinv
      go_wp2_with (at_builtin; refine wpList_app1 hown _ rfl _ _ 86 rfl i0 (.int .i64 0) 8 Tryd.underlying86 hi hz0 hz1 hz2 rfl rfl rfl rfl (by unfold maxLen; omega) (by omega) (by omega) ?_; intro v' w' hown' hb')
      go_roundw
      case rel => exact ⟨m / 10, os ++ [m % 10], by omega, by simp; omega, int_eq (by omega), by rw [List.length_append, List.length_singleton]; exact own_snoc hown' (by omega), HI, hbel.trans hb'⟩
      case measure => simp [intOf]; omega
    · obtain rfl : m = 0 := by omega
      obtain ⟨C, c4, rfl, hS4⟩ := own_sl hown
      have HV : Hid (vl 10 os = n) := by have := hinv.out.2; show _ = _; simpa using this
      have HD := Lib.hid hinv.out.1
      clear hinv hown
      go_wp2_with (go_at_call 68; refine (text_any _ _ _ _ _ hS4 HD.out (by omega)).mono ?_; rintro e w2 ⟨rfl, hb2⟩)
      go_ret
      exact ⟨ret_str (by rw [HV.out]; rfl), hbel.trans (hb2.mono hbel.size)⟩

theorem chk_nat (m : Nat) (h : m ≤ 9223372036854775807) : chk (Lib.itoa (m : Int)) = 0 := chk_of_abs (small_abs _ (by omega) (by omega))

theorem negative_of (l : List UInt8) (h : chk l = 0) (w : World) :
    Calls Tryd.prog 64 #[.string ⟨l.toArray⟩] w fun e w' => e = .returned (.string ⟨(Lib.itoa (-(num l))).toArray⟩) ∧ Below w.heap.size w w' :=
  negative_any ⟨l.toArray⟩ h (by have := len_of_chk h; show l.length ≤ _; omega) w
theorem digitsOf_of (l : List UInt8) (h : chk l = 0) (g : Bool) (hg : ngB l = g) (z : Int) (hz : num l = z) (w : World) :
    Calls Tryd.prog 69 #[.string ⟨l.toArray⟩] w fun e w' => ∃ A c xs, e = .returned (.slice A xs.length c) ∧ SlA encI w' A xs ∧ (∀ d ∈ xs, d < 10) ∧ xs.length ≤ 1000 ∧ z = sgn g (vl 10 xs) ∧ Below w.heap.size w w' := by
  subst hg; subst hz
  exact digitsOf_any ⟨l.toArray⟩ h (by have := len_of_chk h; show l.length ≤ _; omega) w
theorem ng_nat (m : Nat) (h : chk (Lib.itoa (m : Int)) = 0) : ngB (Lib.itoa (m : Int)) = false := by
  cases hh : ngB (Lib.itoa (m : Int))
  · rfl
  · have := (ng_num h).1 hh; rw [num_itoa] at this; omega

theorem small_int (z : Int) (h0 : 0 ≤ z) (h1 : z ≤ 9223372036854775807) (w : World) :
    Calls Tryd.prog 70 #[.int .i64 z] w fun e w' => e = .returned (.string ⟨(Lib.itoa z).toArray⟩) ∧ Below w.heap.size w w' := by
  obtain ⟨m, rfl⟩ := Int.eq_ofNat_of_zero_le h0
  exact small_any m (by omega) w
theorem chk_int (z : Int) (h0 : 0 ≤ z) (h1 : z ≤ 9223372036854775808) : chk (Lib.itoa z) = 0 := chk_of_abs (by
  have h3 : (10 : Nat) ^ 20 ≤ lim := le_lim 20 (by omega)
  have h4 : (10 : Nat) ^ 20 = 100000000000000000000 := by decide
  omega)
theorem ng_int (z : Int) (h0 : 0 ≤ z) (h : chk (Lib.itoa z) = 0) : ngB (Lib.itoa z) = false := by
  obtain ⟨m, rfl⟩ := Int.eq_ofNat_of_zero_le h0
  exact ng_nat m h

set_option maxRecDepth 100000 in
set_option maxHeartbeats 800000 in
theorem refOf_any (n : Int) (h1 : -9223372036854775808 ≤ n) (h2 : n ≤ 9223372036854775807) (w : World) :
    Calls Tryd.prog 32 #[.int .i64 n] w fun e w' => e = .returned (.string ⟨(Lib.itoa n).toArray⟩) ∧ Below w.heap.size w w' := by
  by_cases h0 : 0 ≤ n
  · go_enter Tryd.func32, Tryd.ntmps32
    go_wp2_with (go_at_call 70; refine (small_int n h0 h2 _).mono ?_; rintro e w1 ⟨rfl, hb1⟩)
    go_ret
    exact ⟨rfl, hb1⟩
  · go_enter Tryd.func32, Tryd.ntmps32
    go_wp2_with fail
    refine (small_int (-(n + 1)) (by omega) (by omega) _).mono ?_
    rintro e w1 ⟨rfl, hb1⟩
    obtain ⟨z, hz⟩ : ∃ z : Int, -(n + 1) = z := ⟨_, rfl⟩
    have hz0 : 0 ≤ z := by omega
    have hz1 : z ≤ 9223372036854775807 := by omega
    have hc := chk_int z hz0 (by omega)
    have HD := Lib.hid (digitsOf_of (Lib.itoa z) hc false (ng_int z hz0 hc) z (num_itoa _))
    have hc1 := chk_int (z + 1) (by omega) (by omega)
    have HN := Lib.hid (negative_of (Lib.itoa (z + 1)) hc1)
    rw [num_itoa] at HN
    have en : -(z + 1) = n := by omega
    rw [en] at HN
    have HZ := Lib.hid hz
    rw [hz]
    clear hc hc1 hz en
    generalize Lib.itoa z = lz at HD ⊢
    obtain ⟨lz1, hlz1⟩ : ∃ l, Lib.itoa (z + 1) = l := ⟨_, rfl⟩
    rw [hlz1] at HN
    have HL := Lib.hid hlz1
    clear hlz1
    go_wp2_with fail
    refine (HD.out _).mono ?_
    rintro e w2 ⟨A, c, xs, rfl, hS, hd, hl, hn, hb2⟩
    have HD1 := Lib.hid hd
    have HN1 := Lib.hid hn
    clear hd hn HD
    go_wp2_with fail
    have hS1 : SlA encI (w2.alloc (.cells #[.int .i64 1] 3)) (some ⟨w2.heap.size, 0, none⟩) [1] := SlA.of_cells (heap_alloc_new w2 _) rfl
    have hb2' : Below w2.heap.size w2 (w2.alloc (.cells #[.int .i64 1] 3)) := (Below.refl _ _).alloc (Nat.le_refl _) _
    have HP := Lib.hid (plus_any A (some ⟨w2.heap.size, 0, none⟩) c 1 xs [1] _ (hS.below hb2') hS1 HD1.out (by simp) (by omega) (by simp))
    refine HP.out.mono ?_
    rintro e w3 ⟨v, os, rfl, hown, hb3, hlen, hd3, hv3⟩
    obtain ⟨C, c4, rfl, hS4⟩ := own_sl hown
    have HD4 := Lib.hid hd3
    have HN4 : Hid (Lib.itoa (sgn false (vl 10 os)) = lz1) := by
      show _ = _
      rw [← HL.out, hv3, HN1.out]; simp [sgn, vl]
    have hlen4 := Nat.le_of_eq hlen
    have hl1 : [1].length = 1 := rfl
    rw [hl1] at hlen4
    clear hd3 hv3 hown hlen HP hl1
    go_wp2_with (first
      | (go_at_call 68; refine (text_any _ _ _ _ _ hS4 HD4.out (by omega)).mono ?_; rintro e w4 ⟨rfl, hb4⟩; rw [HN4.out])
      | (go_at_call 64; refine (HN.out _).mono ?_; rintro e w5 ⟨rfl, hb5⟩))
    go_ret
    exact ⟨rfl, bt (bt (bt (bt (bt hb1 hb2) hb2') hb3) hb4) hb5⟩

def tMax : List UInt8 := [57, 50, 50, 51, 51, 55, 50, 48, 51, 54, 56, 53, 52, 55, 55, 53, 56, 48, 55]
def tMin : List UInt8 := [57, 50, 50, 51, 51, 55, 50, 48, 51, 54, 56, 53, 52, 55, 55, 53, 56, 48, 56]
theorem tMax_num : chk tMax = 0 ∧ ngB tMax = false ∧ num tMax = 9223372036854775807 := by decide +kernel
theorem tMin_num : chk tMin = 0 ∧ ngB tMin = false ∧ num tMin = 9223372036854775808 := by decide +kernel
theorem vl_drop_le (xs : List Nat) (k : Nat) (h : k ≤ xs.length) : vl 10 (xs.drop k) ≤ vl 10 xs := by
  rw [vl_take_drop 10 xs k h]
  have : 1 * vl 10 (xs.drop k) ≤ 10 ^ k * vl 10 (xs.drop k) := Nat.mul_le_mul_right _ (Nat.pow_pos (by omega))
  omega
theorem vl_drop_succ (xs : List Nat) (k : Nat) (h : k < xs.length) : vl 10 (xs.drop k) = xs[k] + 10 * vl 10 (xs.drop (k + 1)) := by
  rw [List.drop_eq_getElem_cons h]; rfl

set_option maxRecDepth 100000 in
set_option maxHeartbeats 800000 in
theorem refTo_err (s : ByteArray) (hs : s.size ≤ 1099511627776) (h : ¬ chk s.data.toList = 0) (w : World) :
    Calls Tryd.prog 31 #[.string s] w fun e w' => e = .returned (.tuple #[.int .i64 0, .int .i64 (chk s.data.toList)]) ∧ Below w.heap.size w w' := by
  have HC := Lib.hid (refCheck_any s w hs)
  obtain ⟨x, hx⟩ : ∃ x, chk s.data.toList = x := ⟨_, rfl⟩
  rw [hx] at HC h ⊢
  have h1 : (x == 0) = false := by rw [beq_eq_false_iff_ne]; exact h
  have h2 : (x != 0) = true := by rw [bne_iff_ne]; exact h
  clear h hx
  go_enter Tryd.func31, Tryd.ntmps31
  go_wp2_with (go_at_call 28; refine HC.out.mono ?_; rintro e w1 ⟨rfl, hb1⟩)
  go_ret2
  exact ⟨rfl, hb1⟩

set_option maxRecDepth 100000 in
set_option maxHeartbeats 800000 in
theorem refTo_pos_big (s : ByteArray) (hs : s.size ≤ 1099511627776) (h : chk s.data.toList = 0) (hg : ngB s.data.toList = false) (hz1 : 9223372036854775807 < num s.data.toList) (w : World) :
    Calls Tryd.prog 31 #[.string s] w fun e w' => e = .returned (.tuple #[.int .i64 0, .int .i64 14]) ∧ Below w.heap.size w w' := by
  have HC := Lib.hid (refCheck_any s w hs)
  rw [h] at HC
  have HD := Lib.hid (digits_can s h hs)
  obtain ⟨z, hz⟩ : ∃ z, num s.data.toList = z := ⟨_, rfl⟩
  rw [hg, hz] at HD
  rw [hz] at hz1
  clear h hg hz hs
  have HM := Lib.hid (digitsOf_of tMax tMax_num.1 _ tMax_num.2.1 _ tMax_num.2.2)
  have HM2 := Lib.hid (digitsOf_of tMin tMin_num.1 _ tMin_num.2.1 _ tMin_num.2.2)
  unfold tMax at HM
  unfold tMin at HM2
  have HZ := Lib.hid hz1
  clear hz1
  go_enter Tryd.func31, Tryd.ntmps31
  go_wp2_with (first
        | (go_at_call 28; refine HC.out.mono ?_; rintro e w1 ⟨rfl, hb1⟩)
        | (go_at_call 59; refine (HD.out _).mono ?_; rintro e w2 ⟨A, c, xs, rfl, hS, hd, hl, hn, hb2⟩; have HD1 := Lib.hid hd; have HN1 := Lib.hid hn; clear hd hn)
        | (go_at_call 69; (with_reducible refine (HM.out _).mono ?_); rintro e w3 ⟨B, d, ys, rfl, hS', hd', hl', hn', hb3⟩; have HD2 := Lib.hid hd'; have HN2 := Lib.hid hn'; clear hd' hn'))
  refine (greater_any _ _ _ _ _ _ _ (hS.below hb3) hS' HD1.out HD2.out (by omega) (by omega)).mono ?_
  rintro e w5 ⟨rfl, rfl⟩
  have hc : 0 < cmpN (vl 10 xs) (vl 10 ys) := by
    have e1 := HN1.out
    have e2 := HN2.out
    have e3 := HZ.out
    simp [sgn] at e1 e2
    unfold cmpN; rw [if_pos (by omega)]; omega
  generalize cmpN (vl 10 xs) (vl 10 ys) = r at hc ⊢
  go_wp2
  go_ret2
  exact ⟨rfl, bt (bt hb1 hb2) hb3⟩

set_option maxRecDepth 100000 in
set_option maxHeartbeats 800000 in
theorem refTo_pos_ok (s : ByteArray) (hs : s.size ≤ 1099511627776) (h : chk s.data.toList = 0) (hg : ngB s.data.toList = false) (hz1 : num s.data.toList ≤ 9223372036854775807) (w : World) :
    Calls Tryd.prog 31 #[.string s] w fun e w' => e = .returned (.tuple #[.int .i64 (num s.data.toList), .int .i64 0]) ∧ Below w.heap.size w w' := by
  rw [show num s.data.toList = num s.data.toList from rfl]
  have HC := Lib.hid (refCheck_any s w hs)
  rw [h] at HC
  have HD := Lib.hid (digits_can s h hs)
  obtain ⟨z, hz⟩ : ∃ z, num s.data.toList = z := ⟨_, rfl⟩
  rw [hg, hz] at HD
  rw [hz] at hz1 ⊢
  clear h hg hz hs
  have HM := Lib.hid (digitsOf_of tMax tMax_num.1 _ tMax_num.2.1 _ tMax_num.2.2)
  have HM2 := Lib.hid (digitsOf_of tMin tMin_num.1 _ tMin_num.2.1 _ tMin_num.2.2)
  unfold tMax at HM
  unfold tMin at HM2
  have HZ := Lib.hid hz1
  clear hz1
  go_enter Tryd.func31, Tryd.ntmps31
  go_wp2_with (first
        | (go_at_call 28; refine HC.out.mono ?_; rintro e w1 ⟨rfl, hb1⟩)
        | (go_at_call 59; refine (HD.out _).mono ?_; rintro e w2 ⟨A, c, xs, rfl, hS, hd, hl, hn, hb2⟩; have HD1 := Lib.hid hd; have HN1 := Lib.hid hn; clear hd hn)
        | (go_at_call 69; (with_reducible refine (HM.out _).mono ?_); rintro e w3 ⟨B, d, ys, rfl, hS', hd', hl', hn', hb3⟩; have HD2 := Lib.hid hd'; have HN2 := Lib.hid hn'; clear hd' hn'))
  refine (greater_any _ _ _ _ _ _ _ (hS.below hb3) hS' HD1.out HD2.out (by omega) (by omega)).mono ?_
  rintro e w5 ⟨rfl, rfl⟩
  have hvx : vl 10 xs ≤ 9223372036854775807 := by
    have e1 := HN1.out
    have e3 := HZ.out
    simp [sgn] at e1
    omega
  have hc : cmpN (vl 10 xs) (vl 10 ys) ≤ 0 := by
    have e2 := HN2.out
    simp [sgn] at e2
    unfold cmpN; rw [if_neg (by omega)]; split <;> omega
  generalize cmpN (vl 10 xs) (vl 10 ys) = r at hc ⊢
  have hSW : SlA encI w3 A xs := (hS.below hb3)
  have hbw : Below w.heap.size w w3 := bt (bt hb1 hb2) hb3
  go_wp2
  go_loop [9, 10] (fun n i => ∃ j : Nat, j ≤ xs.length ∧ i = .int .i64 ((j : Int) - 1) ∧ n = .int .i64 (((vl 10 (xs.drop j) : Nat) : Int))) (fun _ i => (intOf i + 1).toNat)
  case atStart => exact ⟨xs.length, Nat.le_refl _, rfl, by rw [List.drop_of_length_le (Nat.le_refl _)]; rfl⟩
  case round =>
    obtain ⟨j, hj, rfl, rfl⟩ := hrel
    cases j with
    | zero =>
      rw [List.drop_zero]
      have HF : Hid (z = ((vl 10 xs : Nat) : Int)) := by
        have e1 := HN1.out
        simp [sgn] at e1
        exact e1
      go_wp2
      go_ret2
      exact ⟨by rw [HF.out]; rfl, hbw⟩
    | succ j =>
      have ej : ((j + 1 : Nat) : Int) - 1 = (j : Int) := by omega
      rw [ej]
      clear ej
      have hjl : j < xs.length := hj
      obtain ⟨b, o, rfl, hb0, hc0⟩ := hSW.get hjl
      have hd9 := HD1.out xs[j] (List.getElem_mem hjl)
      have hle := vl_drop_le xs j (by omega)
      have hsu := vl_drop_succ xs j hjl
      have HS := Lib.hid hsu
      rw [hsu] at hle
      clear hsu
      generalize xs[j] = x at *
      generalize vl 10 (xs.drop (j + 1)) = v at *
      unfold encI at hc0
      have b1 : (x : Int) + 10 * (v : Int) ≤ 9223372036854775807 := by omega
      have b2 : (x : Int) ≤ 9 := by omega
      have b3 : (v : Int) ≤ 922337203685477580 := by omega
      clear hle hd9 hvx
      go_wp2
      go_round
      case rel => exact ⟨j, by omega, rfl, int_eq (by rw [HS.out]; omega)⟩
      case measure => simp [intOf]

set_option maxRecDepth 100000 in
set_option maxHeartbeats 800000 in
theorem refTo_neg_big (s : ByteArray) (hs : s.size ≤ 1099511627776) (h : chk s.data.toList = 0) (hg : ngB s.data.toList = true) (hz1 : num s.data.toList < -9223372036854775808) (w : World) :
    Calls Tryd.prog 31 #[.string s] w fun e w' => e = .returned (.tuple #[.int .i64 0, .int .i64 14]) ∧ Below w.heap.size w w' := by
  have HC := Lib.hid (refCheck_any s w hs)
  rw [h] at HC
  have HD := Lib.hid (digits_can s h hs)
  obtain ⟨z, hz⟩ : ∃ z, num s.data.toList = z := ⟨_, rfl⟩
  rw [hg, hz] at HD
  rw [hz] at hz1
  clear h hg hz hs
  have HM := Lib.hid (digitsOf_of tMax tMax_num.1 _ tMax_num.2.1 _ tMax_num.2.2)
  have HM2 := Lib.hid (digitsOf_of tMin tMin_num.1 _ tMin_num.2.1 _ tMin_num.2.2)
  unfold tMax at HM
  unfold tMin at HM2
  have HZ := Lib.hid hz1
  clear hz1
  go_enter Tryd.func31, Tryd.ntmps31
  go_wp2_with (first
        | (go_at_call 28; refine HC.out.mono ?_; rintro e w1 ⟨rfl, hb1⟩)
        | (go_at_call 59; refine (HD.out _).mono ?_; rintro e w2 ⟨A, c, xs, rfl, hS, hd, hl, hn, hb2⟩; have HD1 := Lib.hid hd; have HN1 := Lib.hid hn; clear hd hn)
        | (go_at_call 69; (with_reducible refine (HM.out _).mono ?_); rintro e w3 ⟨B, d, ys, rfl, hS', hd', hl', hn', hb3⟩; have HD2 := Lib.hid hd'; have HN2 := Lib.hid hn'; clear hd' hn')
        | (go_at_call 69; (with_reducible refine (HM2.out _).mono ?_); rintro e w4 ⟨B2, d2, ys2, rfl, hS2, hd2, hl2, hn2, hb4⟩; have HD3 := Lib.hid hd2; have HN3 := Lib.hid hn2; clear hd2 hn2))
  refine (greater_any _ _ _ _ _ _ _ ((hS.below hb3).below hb4) hS2 HD1.out HD3.out (by omega) (by omega)).mono ?_
  rintro e w5 ⟨rfl, rfl⟩
  have hc : 0 < cmpN (vl 10 xs) (vl 10 ys2) := by
    have e1 := HN1.out
    have e2 := HN3.out
    have e3 := HZ.out
    simp [sgn] at e1 e2
    unfold cmpN; rw [if_pos (by omega)]; omega
  generalize cmpN (vl 10 xs) (vl 10 ys2) = r at hc ⊢
  go_wp2
  go_ret2
  exact ⟨rfl, bt (bt (bt hb1 hb2) hb3) hb4⟩

set_option maxRecDepth 100000 in
set_option maxHeartbeats 800000 in
theorem refTo_neg_ok (s : ByteArray) (hs : s.size ≤ 1099511627776) (h : chk s.data.toList = 0) (hg : ngB s.data.toList = true) (hz1 : -9223372036854775808 ≤ num s.data.toList) (w : World) :
    Calls Tryd.prog 31 #[.string s] w fun e w' => e = .returned (.tuple #[.int .i64 (num s.data.toList), .int .i64 0]) ∧ Below w.heap.size w w' := by
  rw [show num s.data.toList = num s.data.toList from rfl]
  have HC := Lib.hid (refCheck_any s w hs)
  rw [h] at HC
  have HD := Lib.hid (digits_can s h hs)
  obtain ⟨z, hz⟩ : ∃ z, num s.data.toList = z := ⟨_, rfl⟩
  rw [hg, hz] at HD
  rw [hz] at hz1 ⊢
  clear h hg hz hs
  have HM := Lib.hid (digitsOf_of tMax tMax_num.1 _ tMax_num.2.1 _ tMax_num.2.2)
  have HM2 := Lib.hid (digitsOf_of tMin tMin_num.1 _ tMin_num.2.1 _ tMin_num.2.2)
  unfold tMax at HM
  unfold tMin at HM2
  have HZ := Lib.hid hz1
  clear hz1
  go_enter Tryd.func31, Tryd.ntmps31
  go_wp2_with (first
        | (go_at_call 28; refine HC.out.mono ?_; rintro e w1 ⟨rfl, hb1⟩)
        | (go_at_call 59; refine (HD.out _).mono ?_; rintro e w2 ⟨A, c, xs, rfl, hS, hd, hl, hn, hb2⟩; have HD1 := Lib.hid hd; have HN1 := Lib.hid hn; clear hd hn)
        | (go_at_call 69; (with_reducible refine (HM.out _).mono ?_); rintro e w3 ⟨B, d, ys, rfl, hS', hd', hl', hn', hb3⟩; have HD2 := Lib.hid hd'; have HN2 := Lib.hid hn'; clear hd' hn')
        | (go_at_call 69; (with_reducible refine (HM2.out _).mono ?_); rintro e w4 ⟨B2, d2, ys2, rfl, hS2, hd2, hl2, hn2, hb4⟩; have HD3 := Lib.hid hd2; have HN3 := Lib.hid hn2; clear hd2 hn2))
  refine (greater_any _ _ _ _ _ _ _ ((hS.below hb3).below hb4) hS2 HD1.out HD3.out (by omega) (by omega)).mono ?_
  rintro e w5 ⟨rfl, rfl⟩
  have hvx : vl 10 xs ≤ 9223372036854775808 := by
    have e1 := HN1.out
    have e3 := HZ.out
    simp [sgn] at e1
    omega
  have hc : cmpN (vl 10 xs) (vl 10 ys2) ≤ 0 := by
    have e2 := HN3.out
    simp [sgn] at e2
    unfold cmpN; rw [if_neg (by omega)]; split <;> omega
  generalize cmpN (vl 10 xs) (vl 10 ys2) = r at hc ⊢
  have hSW : SlA encI w4 A xs := ((hS.below hb3).below hb4)
  have hbw : Below w.heap.size w w4 := bt (bt (bt hb1 hb2) hb3) hb4
  go_wp2
  go_loop [9, 10] (fun n i => ∃ j : Nat, j ≤ xs.length ∧ i = .int .i64 ((j : Int) - 1) ∧ n = .int .i64 (-((vl 10 (xs.drop j) : Nat) : Int))) (fun _ i => (intOf i + 1).toNat)
  case atStart => exact ⟨xs.length, Nat.le_refl _, rfl, by rw [List.drop_of_length_le (Nat.le_refl _)]; rfl⟩
  case round =>
    obtain ⟨j, hj, rfl, rfl⟩ := hrel
    cases j with
    | zero =>
      rw [List.drop_zero]
      have HF : Hid (z = -((vl 10 xs : Nat) : Int)) := by
        have e1 := HN1.out
        simp [sgn] at e1
        exact e1
      go_wp2
      go_ret2
      exact ⟨by rw [HF.out]; rfl, hbw⟩
    | succ j =>
      have ej : ((j + 1 : Nat) : Int) - 1 = (j : Int) := by omega
      rw [ej]
      clear ej
      have hjl : j < xs.length := hj
      obtain ⟨b, o, rfl, hb0, hc0⟩ := hSW.get hjl
      have hd9 := HD1.out xs[j] (List.getElem_mem hjl)
      have hle := vl_drop_le xs j (by omega)
      have hsu := vl_drop_succ xs j hjl
      have HS := Lib.hid hsu
      rw [hsu] at hle
      clear hsu
      generalize xs[j] = x at *
      generalize vl 10 (xs.drop (j + 1)) = v at *
      unfold encI at hc0
      have b1 : (x : Int) + 10 * (v : Int) ≤ 9223372036854775808 := by omega
      have b2 : (x : Int) ≤ 9 := by omega
      have b3 : (v : Int) ≤ 922337203685477580 := by omega
      clear hle hd9 hvx
      go_wp2
      go_round
      case rel => exact ⟨j, by omega, rfl, int_eq (by rw [HS.out]; omega)⟩
      case measure => simp [intOf]

theorem refTo_any (s : ByteArray) (hs : s.size ≤ 1099511627776) (w : World) :
    Calls Tryd.prog 31 #[.string s] w fun e w' => e = .returned (.tuple #[.int .i64 (toS s.data.toList).1, .int .i64 (toS s.data.toList).2]) ∧ Below w.heap.size w w' := by
  unfold toS
  by_cases h : chk s.data.toList = 0
  · rw [if_pos h]
    obtain ⟨n1, n2⟩ := ng_num h
    cases hg : ngB s.data.toList
    · have := n2 hg
      by_cases hz : num s.data.toList ≤ 9223372036854775807
      · rw [if_pos ⟨by omega, hz⟩]; exact refTo_pos_ok s hs h hg hz w
      · rw [if_neg (fun e => hz e.2)]; exact refTo_pos_big s hs h hg (by omega) w
    · have := n1 hg
      by_cases hz : -9223372036854775808 ≤ num s.data.toList
      · rw [if_pos ⟨hz, by omega⟩]; exact refTo_neg_ok s hs h hg hz w
      · rw [if_neg (fun e => hz e.1)]; exact refTo_neg_big s hs h hg (by omega) w
  · rw [if_neg h]; exact refTo_err s hs h w
end Go.Proofs.YtlipjedofegciaaDoor

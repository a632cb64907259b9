/- The walks of layer 1: differences and products of magnitudes. -/
import Derived.Test.YtlipjedofegciaaDoorIntM2
namespace Go.Proofs.YtlipjedofegciaaDoor
open Go Go.RowKit

def DifInv (xs ys os : List Nat) (k c : Nat) : Prop := os.length = xs.length ∧ (∀ t, os.getD t 0 < 1000000000) ∧ (∀ t, k ≤ t → os.getD t 0 = 0) ∧ vl 1000000000 os + vl 1000000000 (ys.take k) = vl 1000000000 (xs.take k) + 1000000000 ^ k * c ∧ c ≤ 1
theorem DifInv.start (xs ys : List Nat) : DifInv xs ys (List.replicate xs.length 0) 0 0 :=
  ⟨by simp, fun t => by rw [zeros_getD]; omega, fun t _ => zeros_getD _ t, by rw [vl_zeros]; simp [vl], by omega⟩
theorem DifInv.put {xs ys os : List Nat} {k c : Nat} (h : DifInv xs ys os k c) (hk : k < xs.length) (d c' : Nat) (hd : d < 1000000000) (he : d + ys.getD k 0 + c = xs.getD k 0 + 1000000000 * c') (hc' : c' ≤ 1) : DifInv xs ys (os.set k d) (k + 1) c' := by
  obtain ⟨h1, h2, h3, h4, h5⟩ := h
  refine ⟨by simpa using h1, fun t => ?_, fun t ht => ?_, ?_, hc'⟩
  · rw [getD_set]; split
    · exact hd
    · exact h2 t
  · rw [getD_set, if_neg (by omega)]; exact h3 t (by omega)
  · have a := vl_set 1000000000 os k d (by omega)
    rw [h3 k (Nat.le_refl _)] at a
    rw [vl_take_succ, vl_take_succ, Nat.pow_succ]
    generalize xs.getD k 0 = x at *
    generalize ys.getD k 0 = y at *
    generalize 1000000000 ^ k = T at *
    grind
theorem borrow_zero (B V W O Y n c : Nat) (h5 : O + Y = V + B ^ n * c) (l1 : O < B ^ n) (hle : Y ≤ W) (hW : W ≤ V) (hc : c ≤ 1) : c = 0 := by
  rcases Nat.eq_zero_or_pos c with h0 | h0
  · exact h0
  · obtain rfl : c = 1 := by omega
    rw [Nat.mul_one] at h5
    omega
theorem take_of_lt (B : Nat) (ys : List Nat) (n V : Nat) (hV : V < B ^ n) (h : vl B ys ≤ V) : vl B (ys.take n) = vl B ys := by
  by_cases hl : n ≤ ys.length
  · have e := vl_take_drop B ys n hl
    rcases Nat.eq_zero_or_pos (vl B (ys.drop n)) with h0 | h0
    · rw [h0, Nat.mul_zero, Nat.add_zero] at e; exact e.symm
    · have : B ^ n * 1 ≤ B ^ n * vl B (ys.drop n) := Nat.mul_le_mul_left _ h0
      omega
  · rw [vl_take_all _ ys _ (by omega)]
theorem DifInv.last {xs ys os : List Nat} {c : Nat} (h : DifInv xs ys os xs.length c) (hx : ∀ d ∈ xs, d < 1000000000) (hle : vl 1000000000 ys ≤ vl 1000000000 xs) :
    os.length = xs.length ∧ (∀ t, os.getD t 0 < 1000000000) ∧ vl 1000000000 os = vl 1000000000 xs - vl 1000000000 ys := by
  obtain ⟨h1, h2, _, h4, h5⟩ := h
  rw [vl_take_all _ xs _ (Nat.le_refl _), take_of_lt _ ys xs.length _ (vl_lt _ xs hx) hle] at h4
  have l2 := vl_lt _ os (mem_getD os _ fun t _ => h2 t)
  rw [h1] at l2
  have h0 := borrow_zero _ _ _ _ _ _ _ h4 l2 (Nat.le_refl _) hle h5
  refine ⟨h1, h2, ?_⟩
  rw [h0, Nat.mul_zero, Nat.add_zero] at h4
  omega

set_option maxRecDepth 100000 in
set_option maxHeartbeats 800000 in
theorem difference_any (A B : Option Addr) (ca cb : Nat) (xs ys : List Nat) (w : World) (hA : SlA encU w A xs) (hB : SlA encU w B ys) (ha : ∀ d ∈ xs, d < 1000000000) (hb : ∀ d ∈ ys, d < 1000000000) (hla : xs.length ≤ 1073741824) (hle : vl 1000000000 ys ≤ vl 1000000000 xs) :
    Calls Tryd.prog 53 #[.slice A xs.length ca, .slice B ys.length cb] w (MagR w (vl 1000000000 xs - vl 1000000000 ys) xs.length) := by
  obtain ⟨i0, hi, hz0, hz1, hz2⟩ := info_parts Tryd.infoU
  have HA := Lib.hid (getD_lt 1000000000 xs ha (by omega))
  have HB := Lib.hid (getD_lt 1000000000 ys hb (by omega))
  have HL : ∀ os c, Hid (DifInv xs ys os xs.length c → os.length = xs.length ∧ (∀ t, os.getD t 0 < 1000000000) ∧ vl 1000000000 os = vl 1000000000 xs - vl 1000000000 ys) := fun os c h => h.last ha hle
  clear ha hb hle
  have HL := Lib.hid HL
  obtain ⟨V, hV⟩ : ∃ V, vl 1000000000 xs - vl 1000000000 ys = V := ⟨_, rfl⟩
  rw [hV] at HL ⊢
  clear hV
  go_enter Tryd.func53, Tryd.ntmps53
  go_wp2_with (at_make; refine wpList_make_full _ rfl _ _ 68 rfl w.heap.size 77 i0 (.int .u32 0) 1 Tryd.underlying68 hi hz0 hz1 _ _ _ _ xs.length rfl rfl (by omega) (by omega) (by rw [hz2]; omega) (by unfold maxLen; omega) (Nat.le_refl _) ?_; intro w1 hown hg1)
  have hb1 : Below w.heap.size w w1 := (Below.refl _ _).grown hg1 (Nat.le_refl _) (fun k hk => by cases hk)
  rw [zerosU] at hown
  go_loopw [6, 15] (fun cy i wr => ∃ (k c : Nat) (os : List Nat), k ≤ xs.length ∧ i = .int .i64 k ∧ cy = .int .u32 c ∧ c ≤ 1 ∧ wr.ownsRow w.heap.size 77 1 (.slice (some ⟨w.heap.size, 0, none⟩) xs.length xs.length) xs.length (os.map encU) ∧ Hid (DifInv xs ys os k c) ∧ Below w.heap.size w wr) (fun _ i _ => xs.length - (intOf i).toNat)
  case atStart => exact ⟨0, 0, _, by omega, rfl, rfl, by omega, hown, DifInv.start xs ys, hb1⟩
  case round =>
    clear hown hg1 hb1
    obtain ⟨k, c, os, hk, rfl, rfl, hc, hown, hinv, hbel⟩ := hrel
    by_cases hlt : k < xs.length
    · have hx := HA.out k
      have hy := HB.out k
      have hol := hinv.out.1
      obtain ⟨b, o, rfl, hb0, hc0⟩ := (hA.below hbel).get hlt
      have ex : xs[k] = xs.getD k 0 := by simp [List.getD_eq_getElem?_getD, hlt]
      rw [ex] at hc0
      unfold encU at hc0
      have HI := Lib.hid (fun d c' => hinv.out.put hlt d c')
      have TB := Lib.hid (fun n => mat_any B cb ys (wr.drewN n) (hB.below (below_drewN hbel n)) k)
      have hkl : k < os.length := by omega
      clear hinv hol ex
      generalize xs.getD k 0 = x at *
      generalize ys.getD k 0 = y at *
      have hx' : (x : Int) ≤ 999999999 := by omega
      have hy' : (y : Int) ≤ 999999999 := by omega
      have hk' : (k : Int) < (xs.length : Int) := by omega
      have ek1 : (0 : Int) ≤ (k : Int) := by omega
      have ek3 : ((k : Int)).toNat = k := by omega
      have HX := Lib.hid hx
      have HY := Lib.hid hy
      clear hx hy
      go_wp2
      go_quiet ((go_at_call 85; exact Calls.quiet_of_same ((TB.out _).mono fun _ _ h => ⟨h.1, h.2.symm⟩)))
      have hownD : (wr.drewN nq).ownsRow w.heap.size 77 1 (.slice (some ⟨w.heap.size, 0, none⟩) xs.length xs.length) xs.length (os.map encU) := hown
      have hbelD : Below w.heap.size w (wr.drewN nq) := below_drewN hbel nq
      have hcell := own_cellU hownD k hkl
      have hfr := hownD.frozenAt k
      clear hown hbel hb0 hc0 TB
      generalize wr.drewN nq = wq at *
      generalize os.getD k 0 = z at hcell
      by_cases hd : y + c ≤ x
      · have HI2 := Lib.hid (HI.out (x - (y + c)) 0 (by have := HX.out; omega) (by omega) (by omega))
        have hd' : ¬ (x : Int) < (y : Int) + c := by omega
        clear HI
        go_wp2
        go_roundw
        case rel => exact ⟨k + 1, 0, _, by omega, by go_num, rfl, by omega, own_setU hownD k (x - (y + c)) (by omega), HI2, hbelD.setCell (p := ⟨w.heap.size, k, none⟩) (Nat.le_refl _) _⟩
        case measure => simp [intOf]; omega
      · have HI2 := Lib.hid (HI.out (x + 1000000000 - (y + c)) 1 (by omega) (by have := HY.out; omega) (by omega))
        have hd' : (x : Int) < (y : Int) + c := by omega
        clear HI
        go_wp2
        go_roundw
        case rel => exact ⟨k + 1, 1, _, by omega, by go_num, rfl, by omega, own_setU hownD k (x + 1000000000 - (y + c)) (by have := HY.out; omega), HI2, hbelD.setCell (p := ⟨w.heap.size, k, none⟩) (Nat.le_refl _) _⟩
        case measure => simp [intOf]; omega
    · obtain rfl : k = xs.length := by omega
      obtain ⟨f1, f2, f3⟩ := (HL.out os c).out hinv.out
      have HF2 := Lib.hid f2
      have HF3 := Lib.hid f3
      have hfl : os.length ≤ xs.length := by omega
      obtain ⟨A2, c2, hv2, hn2, hS2⟩ := SlA.of_own hown
      have hv3 : (some ⟨w.heap.size, 0, none⟩ : Option Addr) = A2 := by injection hv2
      have hS3 : SlA encU wr (some ⟨w.heap.size, 0, none⟩) os := by rw [hv3]; exact hS2
      have HT : Hid (Calls Tryd.prog 81 #[.slice (some ⟨w.heap.size, 0, none⟩) xs.length xs.length] wr fun e w' => ∃ zs, e = .returned (.slice (some ⟨w.heap.size, 0, none⟩) zs.length xs.length) ∧ Trimmed os zs ∧ wr = w') := by
        have := trim_any (some ⟨w.heap.size, 0, none⟩) xs.length os wr hS3 (by omega) (by unfold maxLen; omega)
        rw [f1] at this
        exact Lib.hid this
      clear HL hinv f1 f2 f3 hv2 hv3 hn2 hS2
      go_wp2_with (go_at_call 81; refine HT.out.mono ?_; rintro e w' ⟨zs, rfl, ht, rfl⟩; have HTr := Lib.hid ht; clear ht)
      go_ret
      exact ⟨_, _, zs, rfl, hS3.trimmed HTr.out, Nrm.of HF2.out HTr.out, by rw [HTr.out.2.1, HF3.out], Nat.le_trans HTr.out.len hfl, Nat.le_trans HTr.out.len hfl, by unfold maxLen; omega, hbel⟩
end Go.Proofs.YtlipjedofegciaaDoor

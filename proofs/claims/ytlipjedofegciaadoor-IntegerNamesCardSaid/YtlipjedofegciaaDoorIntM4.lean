/- The walks of layer 1: products of magnitudes. -/
import Derived.Test.YtlipjedofegciaaDoorIntM3
namespace Go.Proofs.YtlipjedofegciaaDoor
open Go Go.RowKit

def PrInv (B : Nat) (xs ys os : List Nat) (i j c : Nat) : Prop := os.length = xs.length + ys.length ∧ (∀ t, os.getD t 0 < B) ∧ (∀ t, i + ys.length ≤ t → os.getD t 0 = 0) ∧
  vl B os + B ^ (i + j) * c = vl B (xs.take i) * vl B ys + B ^ i * (xs.getD i 0 * vl B (ys.take j)) ∧ c < B
theorem PrInv.start {B : Nat} (hB : 0 < B) (xs ys : List Nat) : PrInv B xs ys (List.replicate (xs.length + ys.length) 0) 0 0 0 :=
  ⟨by simp, fun t => by rw [zeros_getD]; exact hB, fun t _ => zeros_getD _ t, by rw [vl_zeros]; simp [vl], hB⟩
theorem mac_lt {B x y z c : Nat} (hx : x < B) (hy : y < B) (hz : z < B) (hc : c < B) : (c + (z + x * y)) / B < B := by
  obtain ⟨b, rfl⟩ : ∃ b, B = b + 1 := ⟨B - 1, by omega⟩
  refine Nat.div_lt_of_lt_mul ?_
  have h1 : x * y ≤ b * b := Nat.mul_le_mul (by omega) (by omega)
  have h2 : (b + 1) * (b + 1) = b * b + b + b + 1 := by rw [Nat.mul_add, Nat.add_mul]; omega
  omega
theorem PrInv.step {B : Nat} {xs ys os : List Nat} {i j c : Nat} (h : PrInv B xs ys os i j c) (hi : i < xs.length) (hj : j < ys.length) (hx : xs.getD i 0 < B) (hy : ys.getD j 0 < B) :
    PrInv B xs ys (os.set (i + j) ((c + (os.getD (i + j) 0 + xs.getD i 0 * ys.getD j 0)) % B)) i (j + 1) ((c + (os.getD (i + j) 0 + xs.getD i 0 * ys.getD j 0)) / B) := by
  obtain ⟨h1, h2, h3, h4, h5⟩ := h
  have hz := h2 (i + j)
  refine ⟨by simpa using h1, fun t => ?_, fun t ht => ?_, ?_, mac_lt hx hy hz h5⟩
  · rw [getD_set]; split
    · exact Nat.mod_lt _ (by omega)
    · exact h2 t
  · rw [getD_set, if_neg (by omega)]; exact h3 t ht
  · have a := vl_set B os (i + j) ((c + (os.getD (i + j) 0 + xs.getD i 0 * ys.getD j 0)) % B) (by omega)
    have e1 : B ^ (i + (j + 1)) = B ^ (i + j) * B := by rw [← Nat.add_assoc, Nat.pow_succ]
    have e2 : B ^ (i + j) = B ^ i * B ^ j := Nat.pow_add _ _ _
    rw [vl_take_succ, e1]
    rw [e2] at a h4 ⊢
    generalize xs.getD i 0 = x at *
    generalize ys.getD j 0 = y at *
    generalize os.getD (i + j) 0 = z at *
    have hm := Nat.mod_add_div (c + (z + x * y)) B
    generalize (c + (z + x * y)) % B = m at *
    generalize (c + (z + x * y)) / B = q at *
    generalize B ^ i = T at *
    generalize B ^ j = U at *
    grind
theorem PrInv.next {B : Nat} {xs ys os : List Nat} {i c : Nat} (h : PrInv B xs ys os i ys.length c) (hi : i < xs.length) : PrInv B xs ys (os.set (i + ys.length) c) (i + 1) 0 0 := by
  obtain ⟨h1, h2, h3, h4, h5⟩ := h
  refine ⟨by simpa using h1, fun t => ?_, fun t ht => ?_, ?_, by omega⟩
  · rw [getD_set]; split
    · exact h5
    · exact h2 t
  · rw [getD_set, if_neg (by omega)]; exact h3 t (by omega)
  · have a := vl_set B os (i + ys.length) c (by omega)
    rw [h3 (i + ys.length) (Nat.le_refl _)] at a
    rw [vl_take_all _ ys _ (Nat.le_refl _)] at h4
    rw [vl_take_succ]
    simp only [Nat.mul_zero, Nat.add_zero, List.take_zero, vl] at a ⊢
    generalize xs.getD i 0 = x at *
    generalize B ^ (i + ys.length) = U at *
    generalize B ^ i = T at *
    grind
theorem PrInv.last {B : Nat} {xs ys os : List Nat} (h : PrInv B xs ys os xs.length 0 0) : os.length = xs.length + ys.length ∧ (∀ t, os.getD t 0 < B) ∧ vl B os = vl B xs * vl B ys := by
  obtain ⟨h1, h2, _, h4, _⟩ := h
  rw [vl_take_all _ xs _ (Nat.le_refl _), List.take_zero] at h4
  simp only [vl, Nat.mul_zero, Nat.add_zero] at h4
  exact ⟨h1, h2, h4⟩

set_option maxRecDepth 100000 in
set_option maxHeartbeats 1000000 in
theorem product_any (A B : Option Addr) (ca cb : Nat) (xs ys : List Nat) (w : World) (hA : SlA encU w A xs) (hB : SlA encU w B ys) (ha : ∀ d ∈ xs, d < 1000000000) (hb : ∀ d ∈ ys, d < 1000000000) (hla : xs.length ≤ 1073741824) (hlb : ys.length ≤ 1073741824) :
    Calls Tryd.prog 50 #[.slice A xs.length ca, .slice B ys.length cb] w (MagR w (vl 1000000000 xs * vl 1000000000 ys) (xs.length + ys.length)) := by
  obtain ⟨i0, hi, hz0, hz1, hz2⟩ := info_parts Tryd.infoU
  have HA := Lib.hid (getD_lt 1000000000 xs ha (by omega))
  have HB := Lib.hid (getD_lt 1000000000 ys hb (by omega))
  clear ha hb
  go_enter Tryd.func50, Tryd.ntmps50
  go_wp2_with (at_make; refine wpList_make_full _ rfl _ _ 68 rfl w.heap.size 77 i0 (.int .u32 0) 1 Tryd.underlying68 hi hz0 hz1 _ _ _ _ (xs.length + ys.length) rfl rfl (by omega) (by omega) (by rw [hz2]; omega) (by unfold maxLen; omega) (Nat.le_refl _) ?_; intro w1 hown hg1)
  have hb1 : Below w.heap.size w w1 := (Below.refl _ _).grown hg1 (Nat.le_refl _) (fun k hk => by cases hk)
  rw [zerosU] at hown
  go_loopw [17] (fun i wr => ∃ (k : Nat) (os : List Nat), k ≤ xs.length ∧ i = .int .i64 k ∧ wr.ownsRow w.heap.size 77 1 (.slice (some ⟨w.heap.size, 0, none⟩) (xs.length + ys.length) (xs.length + ys.length)) (xs.length + ys.length) (os.map encU) ∧ Hid (PrInv 1000000000 xs ys os k 0 0) ∧ Below w.heap.size w wr) (fun i _ => xs.length - (intOf i).toNat)
  case atStart => exact ⟨0, _, by omega, rfl, hown, PrInv.start (by omega) xs ys, hb1⟩
  case round =>
    clear hown hg1 hb1
    obtain ⟨k, os, hk, rfl, hown, hinv, hbel⟩ := hrel
    obtain ⟨wo, rfl⟩ : ∃ wo : World, wo = wr := ⟨_, rfl⟩
    by_cases hlt : k < xs.length
    · have hx := HA.out k
      go_wp2
      go_loopw [7, 22] (fun cy j wr => ∃ (j' c : Nat) (os : List Nat), j' ≤ ys.length ∧ j = .int .i64 j' ∧ cy = .int .u64 c ∧ wr.ownsRow w.heap.size 77 1 (.slice (some ⟨w.heap.size, 0, none⟩) (xs.length + ys.length) (xs.length + ys.length)) (xs.length + ys.length) (os.map encU) ∧ Hid (PrInv 1000000000 xs ys os k j' c) ∧ Below w.heap.size w wr) (fun _ j _ => ys.length - (intOf j).toNat)
      case atStart => exact ⟨0, 0, os, by omega, rfl, rfl, hown, hinv, hbel⟩
      case round =>
        clear hown hinv hbel
        obtain ⟨j, c, os, hj, rfl, rfl, hown, hinv, hbel⟩ := hrel
        have hol := hinv.out.1
        have hc5 := hinv.out.2.2.2.2
        have hc' : (c : Int) ≤ 999999999 := by omega
        by_cases hjl : j < ys.length
        · have hy := HB.out j
          obtain ⟨b1, o1, rfl, hb1', hc1⟩ := (hA.below hbel).get hlt
          obtain ⟨b2, o2, rfl, hb2', hc2⟩ := (hB.below hbel).get hjl
          have ex : xs[k] = xs.getD k 0 := by simp [List.getD_eq_getElem?_getD, hlt]
          have ey : ys[j] = ys.getD j 0 := by simp [List.getD_eq_getElem?_getD, hjl]
          rw [ex] at hc1
          rw [ey] at hc2
          have hcell := own_cellU hown (k + j) (by omega)
          have hz := hinv.out.2.1 (k + j)
          have hfr := hown.frozenAt (k + j)
          have HI := Lib.hid (hinv.out.step hlt hjl hx hy)
          clear hinv ex ey hol hc5
          generalize xs.getD k 0 = x at *
          generalize ys.getD j 0 = y at *
          generalize os.getD (k + j) 0 = z at *
          have hxy : x * y ≤ 999999999 * 999999999 := Nat.mul_le_mul (by omega) (by omega)
          have hxy1 : (x : Int) * (y : Int) ≤ 999999998000000001 := by rw [← Int.natCast_mul]; omega
          have hxy2 : 0 ≤ (x : Int) * (y : Int) := by rw [← Int.natCast_mul]; omega
          have hz1' : (z : Int) ≤ 999999999 := by omega
          have hx' : (x : Int) ≤ 999999999 := by omega
          have hy' : (y : Int) ≤ 999999999 := by omega
          have hk0 : (k : Int) < (xs.length : Int) := by omega
          have hj0 : (j : Int) < (ys.length : Int) := by omega
          have hkj : (k : Int) + (j : Int) < (xs.length : Int) + (ys.length : Int) := by omega
          have ek1 : (0 : Int) ≤ (k : Int) + (j : Int) := by omega
          have ek3 : ((k : Int) + (j : Int)).toNat = k + j := by omega
          have ek5 : ((k : Int)).toNat = k := by omega
          have ek6 : ((j : Int)).toNat = j := by omega
          unfold encU at hc1 hc2
          clear hxy hx hy hz
          go_wp2
          go_quiet (fail)
          have hownD : (wr.drewN nq).ownsRow w.heap.size 77 1 (.slice (some ⟨w.heap.size, 0, none⟩) (xs.length + ys.length) (xs.length + ys.length)) (xs.length + ys.length) (os.map encU) := hown
          have hbelD : Below w.heap.size w (wr.drewN nq) := below_drewN hbel nq
          have hcellD : (wr.drewN nq).cell? ⟨w.heap.size, k + j, none⟩ = some (.int .u32 (z : Int)) := hcell
          have hfrD : (wr.drewN nq).frozen? ⟨w.heap.size, k + j, none⟩ = false := hfr
          obtain ⟨p, hp⟩ : ∃ p, x * y = p := ⟨_, rfl⟩
          have hpi : (x : Int) * (y : Int) = (p : Int) := by rw [← hp, Int.natCast_mul]
          rw [hpi] at hxy1
          rw [hp] at HI
          rw [hpi]
          clear hown hbel hcell hfr hc1 hc2 hp hpi hxy2
          generalize wr.drewN nq = wq at *
          go_wp2
          go_roundw
          case rel => exact ⟨j + 1, (c + (z + p)) / 1000000000, _, by omega, by go_num, int_eq (by omega), own_setU hownD (k + j) ((c + (z + p)) % 1000000000) (by omega), HI, hbelD.setCell (p := ⟨w.heap.size, k + j, none⟩) (Nat.le_refl _) _⟩
          case measure => simp [intOf]; omega
        · obtain rfl : j = ys.length := by omega
          have hcell := own_cellU hown (k + ys.length) (by omega)
          have hfr := hown.frozenAt (k + ys.length)
          have HN := Lib.hid (hinv.out.next hlt)
          clear hinv hol hc5
          generalize os.getD (k + ys.length) 0 = z at *
          have hk0 : (k : Int) < (xs.length : Int) := by omega
          clear hx
          go_wp2
          go_roundw
          case rel => exact ⟨k + 1, _, by omega, by go_num, own_setU hown (k + ys.length) c rfl, HN, hbel.setCell (p := ⟨w.heap.size, k + ys.length, none⟩) (Nat.le_refl _) _⟩
          case measure => simp [intOf]; omega
    · obtain rfl : k = xs.length := by omega
      obtain ⟨f1, f2, f3⟩ := hinv.out.last
      have HF2 := Lib.hid f2
      have HF3 := Lib.hid f3
      have hfl : os.length ≤ xs.length + ys.length := by omega
      obtain ⟨A2, c2, hv2, hn2, hS2⟩ := SlA.of_own hown
      have hv3 : (some ⟨w.heap.size, 0, none⟩ : Option Addr) = A2 := by injection hv2
      have hS3 : SlA encU wo (some ⟨w.heap.size, 0, none⟩) os := by rw [hv3]; exact hS2
      have HT : Hid (Calls Tryd.prog 81 #[.slice (some ⟨w.heap.size, 0, none⟩) (xs.length + ys.length) (xs.length + ys.length)] wo fun e w' => ∃ zs, e = .returned (.slice (some ⟨w.heap.size, 0, none⟩) zs.length (xs.length + ys.length)) ∧ Trimmed os zs ∧ wo = w') := by
        have := trim_any (some ⟨w.heap.size, 0, none⟩) (xs.length + ys.length) os wo hS3 (by omega) (by unfold maxLen; omega)
        rw [f1] at this
        exact Lib.hid this
      clear hinv f1 f2 f3 hv2 hv3 hn2 hS2
      go_wp2_with (go_at_call 81; refine HT.out.mono ?_; rintro e w' ⟨zs, rfl, ht, rfl⟩; have HTr := Lib.hid ht; clear ht)
      go_ret
      exact ⟨_, _, zs, rfl, hS3.trimmed HTr.out, Nrm.of HF2.out HTr.out, by rw [HTr.out.2.1, HF3.out], Nat.le_trans HTr.out.len hfl, Nat.le_trans HTr.out.len hfl, by unfold maxLen; omega, hbel⟩
end Go.Proofs.YtlipjedofegciaaDoor

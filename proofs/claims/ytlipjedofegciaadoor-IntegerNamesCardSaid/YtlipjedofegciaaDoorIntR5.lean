/- The walks of the reference of layer 1: products. -/
import Derived.Test.YtlipjedofegciaaDoorIntR4
import Derived.BigRegion
import Derived.RegionTactic
import Derived.ChangeAlike
namespace Go.Proofs.YtlipjedofegciaaDoor
open Go Go.RowKit

theorem own_set' {w : World} {base e g n cap : Nat} {os : List Nat} (h : w.ownsRow base e 1 (.slice (some ⟨g, 0, none⟩) n cap) n (os.map encI)) (j v : Nat) {z : Int} (hz : (v : Int) = z) :
    (w.setCell ⟨g, j, none⟩ (.int .i64 z)).ownsRow base e 1 (.slice (some ⟨g, 0, none⟩) n cap) n ((os.set j v).map encI) := by
  have h1 := (h.stored j (.int .i64 z)).1
  have e1 : (os.set j v).map encI = (os.map encI).set j (.int .i64 z) := by rw [List.map_set, ← hz]; rfl
  rw [e1]; exact h1
theorem own_set {w : World} {base e g n cap : Nat} {os : List Nat} (h : w.ownsRow base e 1 (.slice (some ⟨g, 0, none⟩) n cap) n (os.map encI)) (j v : Nat) {z : Int} (hz : (v : Int) = z) :
    ((w.setCell ⟨g, j, none⟩ (.int .i64 z)).drew).ownsRow base e 1 (.slice (some ⟨g, 0, none⟩) n cap) n ((os.set j v).map encI) := by
  have h1 := (h.stored j (.int .i64 z)).1
  have e1 : (os.set j v).map encI = (os.map encI).set j (.int .i64 z) := by rw [List.map_set, ← hz]; rfl
  rw [e1]; exact h1.drew

set_option maxRecDepth 100000 in
set_option maxHeartbeats 800000 in
theorem times_any (A B : Option Addr) (ca cb : Nat) (xs ys : List Nat) (w : World) (hA : SlA encI w A xs) (hB : SlA encI w B ys) (ha : ∀ d ∈ xs, d < 10) (hb : ∀ d ∈ ys, d < 10) (hla : xs.length ≤ 1073741824) (hlb : ys.length ≤ 1073741824) :
    Calls Tryd.prog 65 #[.slice A xs.length ca, .slice B ys.length cb] w fun e w' => ∃ v os, e = .returned v ∧ w'.ownsRow w.heap.size 3 1 v os.length (os.map encI) ∧ Below w.heap.size w w' ∧ os.length = xs.length + ys.length ∧ (∀ d ∈ os, d < 10) ∧ vl 10 os = vl 10 xs * vl 10 ys := by
  obtain ⟨i0, hi, hz0, hz1, hz2⟩ := info_parts Tryd.info3'
  have HA := Lib.hid ha
  have HB := Lib.hid hb
  clear ha hb
  go_enter Tryd.func65, Tryd.ntmps65
  go_wp2_with (at_make; refine wpList_make_full _ rfl _ _ 86 rfl w.heap.size 3 i0 (.int .i64 0) 1 Tryd.underlying86 hi hz0 hz1 _ _ _ _ (xs.length + ys.length) rfl rfl (by omega) (by omega) (by rw [hz2]; omega) (by unfold maxLen; omega) (Nat.le_refl _) ?_; intro w1 hown hg1)
  have hb1 : Below w.heap.size w w1 := (Below.refl _ _).grown hg1 (Nat.le_refl _) (fun k hk => by cases hk)
  have hown : w1.ownsRow w.heap.size 3 1 (.slice (some ⟨w.heap.size, 0, none⟩) (xs.length + ys.length) (xs.length + ys.length)) (xs.length + ys.length) ((List.replicate (xs.length + ys.length) 0).map encI) := by
    have e : (madeCells (Value.int .i64 0).cells ((xs.length + ys.length) * 1)).toList = (List.replicate (xs.length + ys.length) 0).map encI := by
      rw [Nat.mul_one]
      show (madeCells #[Value.int .i64 0] _).toList = _
      rw [toList_madeCells_one]; simp [encI]
    rw [e] at hown; exact hown
  have hP : Hid (vl 10 xs * vl 10 ys < 10 ^ (xs.length + ys.length)) := by
    show _ < _
    rw [Nat.pow_add]
    exact Nat.mul_lt_mul'' (vl_lt 10 xs HA.out) (vl_lt 10 ys HB.out)
  go_loopw [6] (fun i wr => ∃ (k : Nat) (os : List Nat), k ≤ xs.length ∧ i = .int .i64 k ∧ wr.ownsRow w.heap.size 3 1 (.slice (some ⟨w.heap.size, 0, none⟩) (xs.length + ys.length) (xs.length + ys.length)) (xs.length + ys.length) (os.map encI) ∧ Hid (TmInv xs ys os k 0) ∧ Below w.heap.size w wr) (fun i _ => xs.length - (intOf i).toNat)
  case atStart => exact ⟨0, _, by omega, rfl, hown, TmInv.start xs ys, hb1⟩
  case round =>
    obtain ⟨k, os, hk, rfl, hown, hinv, hbel⟩ := hrel
    obtain ⟨wo, rfl⟩ : ∃ wo : World, wo = wr := ⟨_, rfl⟩
    by_cases hlt : k < xs.length
    · go_wp2
      go_loopw [7] (fun j wr => ∃ (j' : Nat) (os : List Nat), j' ≤ ys.length ∧ j = .int .i64 j' ∧ wr.ownsRow w.heap.size 3 1 (.slice (some ⟨w.heap.size, 0, none⟩) (xs.length + ys.length) (xs.length + ys.length)) (xs.length + ys.length) (os.map encI) ∧ Hid (TmInv xs ys os k j') ∧ Below w.heap.size w wr) (fun j _ => ys.length - (intOf j).toNat)
      case atStart => exact ⟨0, os, by omega, rfl, hown, hinv, hbel⟩
      case round =>
        clear hown hinv hbel
        obtain ⟨j, os, hj, rfl, hown, hinv, hbel⟩ := hrel
        by_cases hjl : j < ys.length
        · obtain ⟨b1, o1, rfl, hb1', hc1⟩ := (hA.below hbel).get hlt
          obtain ⟨b2, o2, rfl, hb2', hc2⟩ := (hB.below hbel).get hjl
          have hol := hinv.out.1
          have hij : k + j < os.length := by omega
          have hc3 : wr.cell? ⟨w.heap.size, k + j, none⟩ = some (encI (os.getD (k + j) 0)) := by
            rw [hown.cellAt (k + j) (by omega), List.getElem?_map, List.getElem?_eq_getElem hij]
            simp [List.getD_eq_getElem?_getD, hij]
          have hf3 := hown.frozenAt (k + j)
          have hz := hinv.out.2.2.2 (k + j) (Nat.le_refl _)
          have ex : xs[k] = xs.getD k 0 := by simp [List.getD_eq_getElem?_getD, hlt]
          have ey : ys[j] = ys.getD j 0 := by simp [List.getD_eq_getElem?_getD, hjl]
          have hx9 : xs.getD k 0 < 10 := by rw [← ex]; exact HA.out _ (List.getElem_mem hlt)
          have hy9 : ys.getD j 0 < 10 := by rw [← ey]; exact HB.out _ (List.getElem_mem hjl)
          rw [ex] at hc1
          rw [ey] at hc2
          have HI := Lib.hid (hinv.out.step hlt hjl hx9 hy9)
          clear hinv ex ey
          generalize xs.getD k 0 = x at *
          generalize ys.getD j 0 = y at *
          generalize os.getD (k + j) 0 = z at *
          have hxy : x * y ≤ 9 * 9 := Nat.mul_le_mul (by omega) (by omega)
          have hxy1 : (x : Int) * (y : Int) ≤ 81 := by rw [← Int.natCast_mul]; omega
          have hxy2 : 0 ≤ (x : Int) * (y : Int) := by rw [← Int.natCast_mul]; omega
          have hz1 : (z : Int) ≤ 81 * 1073741824 := by omega
          have hk0 : (k : Int) < (xs.length : Int) := by omega
          have hj0 : (j : Int) < (ys.length : Int) := by omega
          unfold encI at hc1 hc2 hc3
          clear hxy hx9 hy9 hA hB
          go_wp2
          go_region
          go_wp2
          go_roundw
          case rel => exact ⟨j + 1, _, by omega, by go_num, own_set hown (k + j) (z + x * y) (by rw [Int.natCast_add, Int.natCast_mul]), HI, (hbel.setCell (p := ⟨w.heap.size, k + j, none⟩) (Nat.le_refl _) _).drew⟩
          case measure => simp [intOf]; omega
        · obtain rfl : j = ys.length := by omega
          have HN := Lib.hid hinv.out.next
          clear hinv
          go_wp2
          go_roundw
          case rel => exact ⟨k + 1, os, by omega, by go_num, hown, HN, hbel⟩
          case measure => simp [intOf]; omega
    · obtain rfl : k = xs.length := by omega
      obtain ⟨l1, l2, l3⟩ := hinv.out.last
      have HC := Lib.hid (CrInv.start l1 l2 l3)
      clear l1 l2 l3 hinv
      obtain ⟨N, hN⟩ : ∃ N, xs.length + ys.length = N := ⟨_, rfl⟩
      obtain ⟨P, hPe⟩ : ∃ P, vl 10 xs * vl 10 ys = P := ⟨_, rfl⟩
      obtain ⟨M, hMe⟩ : ∃ M, 81 * (xs.length + 1) = M := ⟨_, rfl⟩
      have hM9 : M ≤ 81 * 1073741825 := by omega
      rw [hN, hPe, hMe] at HC
      rw [hN, hPe] at hP
      rw [hN] at hown
      have HNE := Lib.hid hN
      have hNb : N ≤ 2147483648 := by omega
      have HPE := Lib.hid hPe
      clear hPe hMe
      go_wp2
      rw [hN]
      clear hN
      go_loopw [8] (fun i wr => ∃ (k : Nat) (os : List Nat), k ≤ N ∧ i = .int .i64 k ∧ wr.ownsRow w.heap.size 3 1 (.slice (some ⟨w.heap.size, 0, none⟩) N N) N (os.map encI) ∧ Hid (CrInv P M N os k) ∧ Below w.heap.size w wr) (fun i _ => N - (intOf i).toNat)
      case atStart => exact ⟨0, os, by omega, rfl, hown, HC, hbel⟩
      case round =>
        clear hown hbel HC
        obtain ⟨k, os, hkN, rfl, hown, hinv, hbel⟩ := hrel
        by_cases hlt2 : k + 1 < N
        · have hol := hinv.out.1
          have hij0 : k < os.length := by omega
          have hij : k + 1 < os.length := by omega
          have hc3 : wr.cell? ⟨w.heap.size, k + 1, none⟩ = some (encI (os.getD (k + 1) 0)) := by
            rw [hown.cellAt (k + 1) (by omega), List.getElem?_map, List.getElem?_eq_getElem hij]
            simp [List.getD_eq_getElem?_getD, hij]
          have hc4 : wr.cell? ⟨w.heap.size, k, none⟩ = some (encI (os.getD k 0)) := by
            rw [hown.cellAt k (by omega), List.getElem?_map, List.getElem?_eq_getElem hij0]
            simp [List.getD_eq_getElem?_getD, hij0]
          have hf3 := hown.frozenAt (k + 1)
          obtain ⟨g1, g2⟩ := hinv.out.step hlt2
          have HI := Lib.hid g2
          have hb3 := hinv.out.2.2.2.1 (k + 1) (by omega)
          have hb4 := hinv.out.2.2.2.2
          have hgk : (os.set (k + 1) (os.getD (k + 1) 0 + os.getD k 0 / 10)).getD k 0 = os.getD k 0 := g1
          have hl2 : k < (os.set (k + 1) (os.getD (k + 1) 0 + os.getD k 0 / 10)).length := by simp; exact hij0
          clear g2 hinv g1 hol
          generalize os.getD (k + 1) 0 = z1 at *
          generalize os.getD k 0 = z0 at *
          have hz1 : (z1 : Int) ≤ 87241523200 := by omega
          have hz0' : (z0 : Int) ≤ 174483046400 := by omega
          have hk0 : (k : Int) + 1 < (N : Int) := by omega
          unfold encI at hc3 hc4
          have own2 := own_set hown (k + 1) (z1 + z0 / 10) (z := (z1 : Int) + (z0 : Int) / 10) (by omega)
          have bel2 : Below w.heap.size w (wr.setCell ⟨w.heap.size, k + 1, none⟩ (.int .i64 ((z1 : Int) + (z0 : Int) / 10))).drew := (hbel.setCell (p := ⟨w.heap.size, k + 1, none⟩) (Nat.le_refl _) _).drew
          obtain ⟨w2, hw2⟩ : ∃ w2, (wr.setCell ⟨w.heap.size, k + 1, none⟩ (.int .i64 ((z1 : Int) + (z0 : Int) / 10))).drew = w2 := ⟨_, rfl⟩
          rw [hw2] at own2 bel2
          have hc5 : w2.cell? ⟨w.heap.size, k, none⟩ = some (.int .i64 (z0 : Int)) := by
            rw [own2.cellAt k (by omega), List.getElem?_map, List.getElem?_eq_getElem hl2]
            simp only [List.getD_eq_getElem?_getD, List.getElem?_eq_getElem hl2, Option.getD_some] at hgk
            rw [hgk]; rfl
          have hf5 := own2.frozenAt k
          have HW2 := Lib.hid hw2
          clear hw2 hgk hl2
          go_wp2
          go_region
          rw [HW2.out]
          clear HW2 hc3 hc4 hf3 hown hbel
          go_wp2
          go_roundw
          case rel => exact ⟨k + 1, _, by omega, by go_num, own_set' own2 k (z0 % 10) (by omega), HI, bel2.setCell (p := ⟨w.heap.size, k, none⟩) (Nat.le_refl _) _⟩
          case measure => simp [intOf]; omega
        · obtain ⟨f1, f2, f3⟩ := hinv.out.last (by omega) hP.out
          have HF1 := Lib.hid f1
          have HF2 := Lib.hid f2
          have HF3 := Lib.hid f3
          clear f1 f2 f3 hinv
          go_wp2
          go_ret
          exact ⟨_, os, rfl, by rw [HF1.out]; exact hown, hbel, by rw [HF1.out, HNE.out], HF2.out, by rw [HF3.out, HPE.out]⟩
end Go.Proofs.YtlipjedofegciaaDoor

/- The walks of layer 1: sums and differences of magnitudes. -/
import Derived.Test.YtlipjedofegciaaDoorIntM
namespace Go.Proofs.YtlipjedofegciaaDoor
open Go Go.RowKit

/-- A list of groups as the code keeps it. -/
structure Nrm (zs : List Nat) : Prop where
  lt : ∀ d ∈ zs, d < 1000000000
  top : zs ≠ [] → zs.getD (zs.length - 1) 0 ≠ 0
theorem Nrm.of {os ys : List Nat} (h : ∀ t, os.getD t 0 < 1000000000) (ht : Trimmed os ys) : Nrm ys := by
  refine ⟨fun d hd => ?_, ht.2.2⟩
  rw [ht.1] at hd
  exact mem_getD os 1000000000 (fun t _ => h t) d (List.mem_of_mem_take hd)
theorem Trimmed.len {os ys : List Nat} (h : Trimmed os ys) : ys.length ≤ os.length := by
  have := congrArg List.length h.1
  rw [List.length_take] at this
  omega
theorem SlA.trimmed {w : World} {A : Option Addr} {os ys : List Nat} (h : SlA encU w A os) (ht : Trimmed os ys) : SlA encU w A ys := by
  rw [ht.1]; exact h.take

/-- What a function that makes a magnitude leaves. -/
def MagR (w : World) (V N : Nat) (e : Ending) (w' : World) : Prop :=
  ∃ A c zs, e = .returned (.slice A zs.length c) ∧ SlA encU w' A zs ∧ Nrm zs ∧ vl 1000000000 zs = V ∧ zs.length ≤ N ∧ zs.length ≤ c ∧ c ≤ maxLen ∧ Below w.heap.size w w'

theorem own_setU {w : World} {base e g n cap : Nat} {os : List Nat} (h : w.ownsRow base e 1 (.slice (some ⟨g, 0, none⟩) n cap) n (os.map encU)) (j v : Nat) {z : Int} (hz : (v : Int) = z) :
    (w.setCell ⟨g, j, none⟩ (.int .u32 z)).ownsRow base e 1 (.slice (some ⟨g, 0, none⟩) n cap) n ((os.set j v).map encU) := by
  have h1 := (h.stored j (.int .u32 z)).1
  have e1 : (os.set j v).map encU = (os.map encU).set j (.int .u32 z) := by rw [List.map_set, ← hz]; rfl
  rw [e1]; exact h1
theorem own_cellU {w : World} {base e g n cap : Nat} {os : List Nat} (h : w.ownsRow base e 1 (.slice (some ⟨g, 0, none⟩) n cap) n (os.map encU)) (j : Nat) (hj : j < os.length) : w.cell? ⟨g, j, none⟩ = some (.int .u32 ((os.getD j 0 : Nat) : Int)) := by
  have hl : os.length = n := by have := h.1; simpa using this
  rw [h.cellAt j (by omega), List.getElem?_map, List.getElem?_eq_getElem hj]
  simp [List.getD_eq_getElem?_getD, hj, encU]
theorem zerosU (n : Nat) : (madeCells (Value.int .u32 0).cells (n * 1)).toList = (List.replicate n 0).map encU := by
  rw [Nat.mul_one]
  show (madeCells #[Value.int .u32 0] _).toList = _
  rw [toList_madeCells_one]; simp [encU]

def TotInv (n : Nat) (xs ys os : List Nat) (k c : Nat) : Prop := os.length = n ∧ (∀ t, os.getD t 0 < 1000000000) ∧ (∀ t, k ≤ t → os.getD t 0 = 0) ∧ vl 1000000000 os + 1000000000 ^ k * c = vl 1000000000 (xs.take k) + vl 1000000000 (ys.take k) ∧ c ≤ 1
theorem zeros_getD (n t : Nat) : (List.replicate n 0).getD t 0 = 0 := by
  simp [List.getD_eq_getElem?_getD, List.getElem?_replicate]; split <;> simp
theorem TotInv.start (n : Nat) (xs ys : List Nat) : TotInv n xs ys (List.replicate n 0) 0 0 :=
  ⟨by simp, fun t => by rw [zeros_getD]; omega, fun t _ => zeros_getD n t, by rw [vl_zeros]; simp [vl], by omega⟩
theorem TotInv.step {n : Nat} {xs ys os : List Nat} {k c : Nat} (h : TotInv n xs ys os k c) (hk : k < n) (hx : xs.getD k 0 < 1000000000) (hy : ys.getD k 0 < 1000000000) :
    TotInv n xs ys (os.set k ((c + (xs.getD k 0 + ys.getD k 0)) % 1000000000)) (k + 1) ((c + (xs.getD k 0 + ys.getD k 0)) / 1000000000) := by
  obtain ⟨h1, h2, h3, h4, h5⟩ := h
  refine ⟨by simpa using h1, fun t => ?_, fun t ht => ?_, ?_, by omega⟩
  · rw [getD_set]; split
    · omega
    · exact h2 t
  · rw [getD_set, if_neg (by omega)]; exact h3 t (by omega)
  · have a := vl_set 1000000000 os k ((c + (xs.getD k 0 + ys.getD k 0)) % 1000000000) (by omega)
    rw [h3 k (Nat.le_refl _)] at a
    rw [vl_take_succ, vl_take_succ, Nat.pow_succ]
    generalize xs.getD k 0 = x at *
    generalize ys.getD k 0 = y at *
    have hm := Nat.mod_add_div (c + (x + y)) 1000000000
    generalize (c + (x + y)) % 1000000000 = m at *
    generalize (c + (x + y)) / 1000000000 = q at *
    generalize 1000000000 ^ k = T at *
    grind
theorem carry_zero (B V W O M c : Nat) (hB : 2 ≤ B) (h5 : O + B ^ (M + 1) * c = V + W) (l1 : V < B ^ M) (l2 : W < B ^ M) : c = 0 := by
  rcases Nat.eq_zero_or_pos c with h0 | h0
  · exact h0
  · have h1 : B ^ (M + 1) * 1 ≤ B ^ (M + 1) * c := Nat.mul_le_mul_left _ h0
    rw [Nat.pow_succ] at h1 h5
    have h2 : B ^ M * 2 ≤ B ^ M * B := Nat.mul_le_mul_left _ hB
    omega
theorem TotInv.last {xs ys os : List Nat} {M c : Nat} (h : TotInv (M + 1) xs ys os (M + 1) c) (h1 : xs.length ≤ M) (h2 : ys.length ≤ M) (hx : ∀ d ∈ xs, d < 1000000000) (hy : ∀ d ∈ ys, d < 1000000000) :
    os.length = M + 1 ∧ (∀ t, os.getD t 0 < 1000000000) ∧ vl 1000000000 os = vl 1000000000 xs + vl 1000000000 ys := by
  obtain ⟨h3, h4, _, h5, _⟩ := h
  rw [vl_take_all _ xs _ (by omega), vl_take_all _ ys _ (by omega)] at h5
  have l1 := take_lt _ xs hx M (by omega)
  have l2 := take_lt _ ys hy M (by omega)
  rw [vl_take_all _ xs _ h1] at l1
  rw [vl_take_all _ ys _ h2] at l2
  have h0 := carry_zero _ _ _ _ _ _ (by omega) h5 l1 l2
  refine ⟨h3, h4, ?_⟩
  rw [h0, Nat.mul_zero, Nat.add_zero] at h5
  exact h5

set_option maxRecDepth 100000 in
set_option maxHeartbeats 800000 in
theorem total_any (A B : Option Addr) (ca cb : Nat) (xs ys : List Nat) (w : World) (hA : SlA encU w A xs) (hB : SlA encU w B ys) (ha : ∀ d ∈ xs, d < 1000000000) (hb : ∀ d ∈ ys, d < 1000000000) (hla : xs.length ≤ 1073741824) (hlb : ys.length ≤ 1073741824) :
    Calls Tryd.prog 52 #[.slice A xs.length ca, .slice B ys.length cb] w (MagR w (vl 1000000000 xs + vl 1000000000 ys) (max xs.length ys.length + 1)) := by
  obtain ⟨i0, hi, hz0, hz1, hz2⟩ := info_parts Tryd.infoU
  have HA := Lib.hid (getD_lt 1000000000 xs ha (by omega))
  have HB := Lib.hid (getD_lt 1000000000 ys hb (by omega))
  have hM : (xs.length < ys.length ∧ max xs.length ys.length = ys.length) ∨ (¬ xs.length < ys.length ∧ max xs.length ys.length = xs.length) := by omega
  have HL : ∀ os c, Hid (TotInv (max xs.length ys.length + 1) xs ys os (max xs.length ys.length + 1) c → os.length = max xs.length ys.length + 1 ∧ (∀ t, os.getD t 0 < 1000000000) ∧ vl 1000000000 os = vl 1000000000 xs + vl 1000000000 ys) := fun os c h => h.last (by omega) (by omega) ha hb
  clear ha hb
  have HL := Lib.hid HL
  obtain ⟨V, hV⟩ : ∃ V, vl 1000000000 xs + vl 1000000000 ys = V := ⟨_, rfl⟩
  rw [hV] at HL ⊢
  clear hV
  rcases hM with ⟨hm, hM⟩ | ⟨hm, hM⟩
  · rw [hM] at HL ⊢
    clear hM
    go_enter Tryd.func52, Tryd.ntmps52
    go_wp2_with (at_make; refine wpList_make_full _ rfl _ _ 68 rfl w.heap.size 77 i0 (.int .u32 0) 1 Tryd.underlying68 hi hz0 hz1 _ _ _ _ (ys.length + 1) rfl rfl (by omega) (by omega) (by rw [hz2]; omega) (by unfold maxLen; omega) (Nat.le_refl _) ?_; intro w1 hown hg1)
    have hb1 : Below w.heap.size w w1 := (Below.refl _ _).grown hg1 (Nat.le_refl _) (fun k hk => by cases hk)
    rw [zerosU] at hown
    go_loopw [7, 18] (fun cy i wr => ∃ (k c : Nat) (os : List Nat), k ≤ ys.length + 1 ∧ i = .int .i64 k ∧ cy = .int .u32 c ∧ c ≤ 1 ∧ wr.ownsRow w.heap.size 77 1 (.slice (some ⟨w.heap.size, 0, none⟩) (ys.length + 1) (ys.length + 1)) (ys.length + 1) (os.map encU) ∧ Hid (TotInv (ys.length + 1) xs ys os k c) ∧ Below w.heap.size w wr) (fun _ i _ => ys.length + 1 - (intOf i).toNat)
    case atStart => exact ⟨0, 0, _, by omega, rfl, rfl, by omega, hown, TotInv.start _ xs ys, hb1⟩
    case round =>
      clear hown hg1 hb1
      obtain ⟨k, c, os, hk, rfl, rfl, hc, hown, hinv, hbel⟩ := hrel
      by_cases hlt : k < ys.length + 1
      · have hx := HA.out k
        have hy := HB.out k
        have hol := hinv.out.1
        have hcell := own_cellU hown k (by omega)
        have hfr := hown.frozenAt k
        have HI := Lib.hid (hinv.out.step hlt hx hy)
        clear hinv hol
        have TA := Lib.hid (mat_any A ca xs wr (hA.below hbel) k)
        have TB := Lib.hid (mat_any B cb ys wr (hB.below hbel) k)
        generalize xs.getD k 0 = x at hx HI TA
        generalize ys.getD k 0 = y at hy HI TB
        generalize os.getD k 0 = z at hcell
        have hx' : (x : Int) ≤ 999999999 := by omega
        have hy' : (y : Int) ≤ 999999999 := by omega
        have hk' : (k : Int) < (ys.length : Int) + 1 := by omega
        clear hx hy
        go_wp2_with (first | (go_at_call 85; (with_reducible refine TA.out.mono ?_); rintro e w' ⟨rfl, rfl⟩) | (go_at_call 85; (with_reducible refine TB.out.mono ?_); rintro e w' ⟨rfl, rfl⟩))
        go_roundw
        case rel => exact ⟨k + 1, (c + (x + y)) / 1000000000, _, by omega, by go_num, int_eq (by omega), by omega, own_setU hown k ((c + (x + y)) % 1000000000) (by omega), HI, hbel.setCell (p := ⟨w.heap.size, k, none⟩) (Nat.le_refl _) _⟩
        case measure => simp [intOf]; omega
      · obtain rfl : k = ys.length + 1 := by omega
        obtain ⟨f1, f2, f3⟩ := (HL.out os c).out hinv.out
        have HF1 := Lib.hid f1
        have HF2 := Lib.hid f2
        have HF3 := Lib.hid f3
        have hfl : os.length ≤ ys.length + 1 := by omega
        obtain ⟨A2, c2, hv2, hn2, hS2⟩ := SlA.of_own hown
        have HT : Hid (Calls Tryd.prog 81 #[.slice (some ⟨w.heap.size, 0, none⟩) (ys.length + 1) (ys.length + 1)] wr fun e w' => ∃ zs, e = .returned (.slice (some ⟨w.heap.size, 0, none⟩) zs.length (ys.length + 1)) ∧ Trimmed os zs ∧ wr = w') := by
          have hv3 : (some ⟨w.heap.size, 0, none⟩ : Option Addr) = A2 := by injection hv2
          rw [← hv3] at hS2
          have := trim_any (some ⟨w.heap.size, 0, none⟩) (ys.length + 1) os wr hS2 (by omega) (by unfold maxLen; omega)
          rw [f1] at this
          exact Lib.hid this
        have hS3 : SlA encU wr (some ⟨w.heap.size, 0, none⟩) os := by
          have hv3 : (some ⟨w.heap.size, 0, none⟩ : Option Addr) = A2 := by injection hv2
          rw [hv3]; exact hS2
        clear HL hinv f1 f2 f3 hv2 hn2 hS2
        go_wp2_with (go_at_call 81; refine HT.out.mono ?_; rintro e w' ⟨zs, rfl, ht, rfl⟩; have HTr := Lib.hid ht; clear ht)
        go_ret
        exact ⟨_, _, zs, rfl, hS3.trimmed HTr.out, Nrm.of HF2.out HTr.out, by rw [HTr.out.2.1, HF3.out], Nat.le_trans HTr.out.len hfl, Nat.le_trans HTr.out.len hfl, by unfold maxLen; omega, hbel⟩
  · rw [hM] at HL ⊢
    clear hM
    go_enter Tryd.func52, Tryd.ntmps52
    go_wp2_with (at_make; refine wpList_make_full _ rfl _ _ 68 rfl w.heap.size 77 i0 (.int .u32 0) 1 Tryd.underlying68 hi hz0 hz1 _ _ _ _ (xs.length + 1) rfl rfl (by omega) (by omega) (by rw [hz2]; omega) (by unfold maxLen; omega) (Nat.le_refl _) ?_; intro w1 hown hg1)
    have hb1 : Below w.heap.size w w1 := (Below.refl _ _).grown hg1 (Nat.le_refl _) (fun k hk => by cases hk)
    rw [zerosU] at hown
    go_loopw [7, 18] (fun cy i wr => ∃ (k c : Nat) (os : List Nat), k ≤ xs.length + 1 ∧ i = .int .i64 k ∧ cy = .int .u32 c ∧ c ≤ 1 ∧ wr.ownsRow w.heap.size 77 1 (.slice (some ⟨w.heap.size, 0, none⟩) (xs.length + 1) (xs.length + 1)) (xs.length + 1) (os.map encU) ∧ Hid (TotInv (xs.length + 1) xs ys os k c) ∧ Below w.heap.size w wr) (fun _ i _ => xs.length + 1 - (intOf i).toNat)
    case atStart => exact ⟨0, 0, _, by omega, rfl, rfl, by omega, hown, TotInv.start _ xs ys, hb1⟩
    case round =>
      clear hown hg1 hb1
      obtain ⟨k, c, os, hk, rfl, rfl, hc, hown, hinv, hbel⟩ := hrel
      by_cases hlt : k < xs.length + 1
      · have hx := HA.out k
        have hy := HB.out k
        have hol := hinv.out.1
        have hcell := own_cellU hown k (by omega)
        have hfr := hown.frozenAt k
        have HI := Lib.hid (hinv.out.step hlt hx hy)
        clear hinv hol
        have TA := Lib.hid (mat_any A ca xs wr (hA.below hbel) k)
        have TB := Lib.hid (mat_any B cb ys wr (hB.below hbel) k)
        generalize xs.getD k 0 = x at hx HI TA
        generalize ys.getD k 0 = y at hy HI TB
        generalize os.getD k 0 = z at hcell
        have hx' : (x : Int) ≤ 999999999 := by omega
        have hy' : (y : Int) ≤ 999999999 := by omega
        have hk' : (k : Int) < (xs.length : Int) + 1 := by omega
        clear hx hy
        go_wp2_with (first | (go_at_call 85; (with_reducible refine TA.out.mono ?_); rintro e w' ⟨rfl, rfl⟩) | (go_at_call 85; (with_reducible refine TB.out.mono ?_); rintro e w' ⟨rfl, rfl⟩))
        go_roundw
        case rel => exact ⟨k + 1, (c + (x + y)) / 1000000000, _, by omega, by go_num, int_eq (by omega), by omega, own_setU hown k ((c + (x + y)) % 1000000000) (by omega), HI, hbel.setCell (p := ⟨w.heap.size, k, none⟩) (Nat.le_refl _) _⟩
        case measure => simp [intOf]; omega
      · obtain rfl : k = xs.length + 1 := by omega
        obtain ⟨f1, f2, f3⟩ := (HL.out os c).out hinv.out
        have HF1 := Lib.hid f1
        have HF2 := Lib.hid f2
        have HF3 := Lib.hid f3
        have hfl : os.length ≤ xs.length + 1 := by omega
        obtain ⟨A2, c2, hv2, hn2, hS2⟩ := SlA.of_own hown
        have HT : Hid (Calls Tryd.prog 81 #[.slice (some ⟨w.heap.size, 0, none⟩) (xs.length + 1) (xs.length + 1)] wr fun e w' => ∃ zs, e = .returned (.slice (some ⟨w.heap.size, 0, none⟩) zs.length (xs.length + 1)) ∧ Trimmed os zs ∧ wr = w') := by
          have hv3 : (some ⟨w.heap.size, 0, none⟩ : Option Addr) = A2 := by injection hv2
          rw [← hv3] at hS2
          have := trim_any (some ⟨w.heap.size, 0, none⟩) (xs.length + 1) os wr hS2 (by omega) (by unfold maxLen; omega)
          rw [f1] at this
          exact Lib.hid this
        have hS3 : SlA encU wr (some ⟨w.heap.size, 0, none⟩) os := by
          have hv3 : (some ⟨w.heap.size, 0, none⟩ : Option Addr) = A2 := by injection hv2
          rw [hv3]; exact hS2
        clear HL hinv f1 f2 f3 hv2 hn2 hS2
        go_wp2_with (go_at_call 81; refine HT.out.mono ?_; rintro e w' ⟨zs, rfl, ht, rfl⟩; have HTr := Lib.hid ht; clear ht)
        go_ret
        exact ⟨_, _, zs, rfl, hS3.trimmed HTr.out, Nrm.of HF2.out HTr.out, by rw [HTr.out.2.1, HF3.out], Nat.le_trans HTr.out.len hfl, Nat.le_trans HTr.out.len hfl, by unfold maxLen; omega, hbel⟩
end Go.Proofs.YtlipjedofegciaaDoor

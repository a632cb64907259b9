/- Layer 3: the reference's Parse. -/
import Derived.Test.YteigcgncbkjmaaaDoorDatQ
import Derived.Deep.QuietTactic
import Derived.BigQuiet
import Derived.BigRegion
namespace Go.Proofs.YteigcgncbkjmaaaDoor
open Go Go.RowKit

/-- The three numbers after so many bytes. -/
def stP (l : List UInt8) : Nat → Int × Int × Int
  | 0 => (0, 0, 0)
  | k + 1 =>
    if k = 4 ∨ k = 7 then stP l k
    else if k < 4 then (10 * (stP l k).1 + (((l.getD k 0).toNat : Int) - 48), (stP l k).2.1, (stP l k).2.2)
    else if k < 7 then ((stP l k).1, 10 * (stP l k).2.1 + (((l.getD k 0).toNat : Int) - 48), (stP l k).2.2)
    else ((stP l k).1, (stP l k).2.1, 10 * (stP l k).2.2 + (((l.getD k 0).toNat : Int) - 48))
theorem stP_end (l : List UInt8) (h : l.length = 10) : stP l 10 = (pY l, pM l, pD l) := by
  match l, h with
  | [a, b, c, d, e, f, g, h, i, j], _ => rfl
/-- The array's cells. -/
def Cells3 (w wr : World) (a b c : Int) : Prop :=
  wr.cell? ⟨w.heap.size, 0, none⟩ = some (.int .i64 a) ∧ wr.cell? ⟨w.heap.size, 1, none⟩ = some (.int .i64 b) ∧ wr.cell? ⟨w.heap.size, 2, none⟩ = some (.int .i64 c) ∧
  wr.frozen? ⟨w.heap.size, 0, none⟩ = false ∧ wr.frozen? ⟨w.heap.size, 1, none⟩ = false ∧ wr.frozen? ⟨w.heap.size, 2, none⟩ = false

/-- The number of the array that the byte at a place belongs to. -/
def atI (k : Nat) : Int := if k ≤ 4 then 0 else if k ≤ 7 then 1 else 2
theorem cells3_0 {w wr : World} {a b c : Int} (h : Cells3 w wr a b c) (z : Int) : Cells3 w (wr.setCell ⟨w.heap.size, 0, none⟩ (.int .i64 z)).drew z b c := by
  obtain ⟨k0, k1, k2, f0, f1, f2⟩ := h
  refine ⟨World.cell?_setCell_same _ _ _ k0, ?_, ?_, ?_, ?_, ?_⟩
  · exact (World.cell?_setCell_other _ _ _ _ (by simp)).trans k1
  · exact (World.cell?_setCell_other _ _ _ _ (by simp)).trans k2
  all_goals simp [*]
theorem cells3_1 {w wr : World} {a b c : Int} (h : Cells3 w wr a b c) (z : Int) : Cells3 w (wr.setCell ⟨w.heap.size, 1, none⟩ (.int .i64 z)).drew a z c := by
  obtain ⟨k0, k1, k2, f0, f1, f2⟩ := h
  refine ⟨?_, World.cell?_setCell_same _ _ _ k1, ?_, ?_, ?_, ?_⟩
  · exact (World.cell?_setCell_other _ _ _ _ (by simp)).trans k0
  · exact (World.cell?_setCell_other _ _ _ _ (by simp)).trans k2
  all_goals simp [*]
theorem cells3_2 {w wr : World} {a b c : Int} (h : Cells3 w wr a b c) (z : Int) : Cells3 w (wr.setCell ⟨w.heap.size, 2, none⟩ (.int .i64 z)).drew a b z := by
  obtain ⟨k0, k1, k2, f0, f1, f2⟩ := h
  refine ⟨?_, ?_, World.cell?_setCell_same _ _ _ k2, ?_, ?_, ?_⟩
  · exact (World.cell?_setCell_other _ _ _ _ (by simp)).trans k0
  · exact (World.cell?_setCell_other _ _ _ _ (by simp)).trans k1
  all_goals simp [*]
theorem pa_bad {l : List UInt8} (h1 : fmB l = fmK l 10) (h2 : fmK l 10 = false) : paV l = 0 ∧ paE l = 12 := by
  unfold paV paE; rw [h1, h2]; exact ⟨rfl, rfl⟩
theorem pa_good {l : List UInt8} (h1 : fmB l = fmK l 10) (h2 : fmK l 10 = true) : paV l = ofV (pY l) (pM l) (pD l) ∧ paE l = ofE (pY l) (pM l) (pD l) := by
  unfold paV paE; rw [h1, h2]; exact ⟨rfl, rfl⟩

set_option maxRecDepth 100000 in
set_option maxHeartbeats 3200000 in
theorem refParse_ten (s : ByteArray) (h10 : s.size = 10) (w : World) :
    Calls Tryd.prog 28 #[.string s] w fun e w' => e = .returned (.tuple #[.int .i64 (paV s.data.toList), .int .i64 (paE s.data.toList)]) ∧ Below w.heap.size w w' := by
  have hl : s.data.toList.length = 10 := (Lib.size_eq s).symm.trans h10
  have HF : Hid (fmB s.data.toList = fmK s.data.toList 10) := by
    show _ = _
    unfold fmB; rw [hl]; rfl
  have HE := Lib.hid (stP_end s.data.toList hl)
  have hle : s.size ≤ 10 := by omega
  have hge : 10 ≤ s.size := by omega
  have hb : ((s.size : Int) == 10) = true := by rw [beq_iff_eq]; omega
  have hb2 : ((s.size : Int) != 10) = false := by rw [bne, hb]; rfl
  clear hl h10
  go_enter Tryd.func28, Tryd.ntmps28
  go_wp2
  have B0 := Lib.hid ((Below.refl w.heap.size w).alloc (Nat.le_refl _) (.cells #[.int .i64 0, .int .i64 0, .int .i64 0] 48))
  have C0 : Hid (Cells3 w (w.alloc (.cells #[.int .i64 0, .int .i64 0, .int .i64 0] 48)) 0 0 0) :=
    ⟨by rw [World.cell?_alloc_at _ _ _ _ rfl]; rfl, by rw [World.cell?_alloc_at _ _ _ _ rfl]; rfl, by rw [World.cell?_alloc_at _ _ _ _ rfl]; rfl, World.frozen?_alloc_at _ _ _ _ rfl, World.frozen?_alloc_at _ _ _ _ rfl, World.frozen?_alloc_at _ _ _ _ rfl⟩
  go_loopw [5, 6] (fun t i wr => ∃ (k : Nat) (a b c : Int), k ≤ 10 ∧ i = .int .i64 k ∧ t = .int .i64 (atI k) ∧
    0 ≤ a ∧ 0 ≤ b ∧ 0 ≤ c ∧ a + 1 ≤ 10 ^ k ∧ b + 1 ≤ 10 ^ k ∧ c + 1 ≤ 10 ^ k ∧ Hid (Cells3 w wr a b c) ∧ Hid (stP s.data.toList k = (a, b, c)) ∧ Hid (fmK s.data.toList k = true) ∧ Hid (Below w.heap.size w wr)) (fun _ i _ => 10 - (intOf i).toNat)
  case atStart => exact ⟨0, 0, 0, 0, by omega, rfl, rfl, by omega, by omega, by omega, by decide, by decide, by decide, C0, rfl, rfl, B0⟩
  case round =>
    clear B0 C0
    obtain ⟨k, a, b, c, hk, rfl, rfl, a0, b0, c0, a1, b1, c1, hcl, hst, hf, hbl⟩ := hrel
    by_cases hlt : k < 10
    · obtain ⟨x, hx⟩ : ∃ x, s.data.toList.getD k 0 = x := ⟨_, rfl⟩
      have HK : Hid (fmK s.data.toList (k + 1) = atB k x) := by
        show _ = _
        have h1 := hf.out
        simp only [fmK, h1, Bool.true_and, hx]
      have HX : Hid (atB k x = false → fmK s.data.toList 10 = false) := fun h => fmK_bad _ k hlt (by rw [hx]; exact h)
      have hcs : s[k] = x := by rw [← hx, getD_toList]
      have HS : Hid (stP s.data.toList (k + 1) = if k = 4 ∨ k = 7 then (a, b, c) else if k < 4 then (10 * a + ((x.toNat : Int) - 48), b, c) else if k < 7 then (a, 10 * b + ((x.toNat : Int) - 48), c) else (a, b, 10 * c + ((x.toNat : Int) - 48))) := by
        show _ = _
        rw [stP, hst.out, hx]
      obtain ⟨z, hz⟩ : ∃ z : Int, z = (k : Int) := ⟨_, rfl⟩
      rw [← hz]
      have hcase : (z = 0 ∧ k = 0) ∨ (z = 1 ∧ k = 1) ∨ (z = 2 ∧ k = 2) ∨ (z = 3 ∧ k = 3) ∨ (z = 4 ∧ k = 4) ∨ (z = 5 ∧ k = 5) ∨ (z = 6 ∧ k = 6) ∨ (z = 7 ∧ k = 7) ∨ (z = 8 ∧ k = 8) ∨ (z = 9 ∧ k = 9) := by omega
      obtain ⟨k0, k1, k2, f0, f1, f2⟩ := hcl.out
      clear hf hz hx hcl hst
      rcases hcase with ⟨rfl, rfl⟩ | ⟨rfl, rfl⟩ | ⟨rfl, rfl⟩ | ⟨rfl, rfl⟩ | ⟨rfl, rfl⟩ | ⟨rfl, rfl⟩ | ⟨rfl, rfl⟩ | ⟨rfl, rfl⟩ | ⟨rfl, rfl⟩ | ⟨rfl, rfl⟩
      · have hb10 : (10 : Int) ^ 0 = 1 := by decide
        have hb11 : (10 : Int) ^ 1 = 10 := by decide
        rw [hb10] at a1 b1 c1
        rw [show atI 0 = 0 from rfl]
        have HD := Lib.hid (dgB_iff x)
        cases hd : dgB x
        · by_cases x0 : (x.toNat : Int) < 48
          · have d0 : decide ((x.toNat : Int) < 48) = true := decide_eq_true x0
            have HZ := Lib.hid (pa_bad HF.out (HX.out (hd)))
            clear HX HK HD HS HF HE
            go_wp2
            go_ret2
            exact ⟨ret_pair HZ.out.1.symm HZ.out.2.symm, hbl.out⟩
          · have x1 : 57 < (x.toNat : Int) := by
              rcases Int.lt_or_le 57 (x.toNat : Int) with g | g
              · exact g
              · have := HD.out.2 ⟨by omega, g⟩
                rw [hd] at this; cases this
            have d0 : decide ((x.toNat : Int) < 48) = false := decide_eq_false x0
            have d1 : decide (57 < (x.toNat : Int)) = true := decide_eq_true x1
            have HZ := Lib.hid (pa_bad HF.out (HX.out (hd)))
            clear HX HK HD HS HF HE
            go_wp2
            go_ret2
            exact ⟨ret_pair HZ.out.1.symm HZ.out.2.symm, hbl.out⟩
        · have HZ := Lib.hid (HK.out.trans hd)
          obtain ⟨x0, x1⟩ := HD.out.1 hd
          have d0 : decide ((x.toNat : Int) < 48) = false := decide_eq_false (by omega)
          have d1 : decide (57 < (x.toNat : Int)) = false := decide_eq_false (by omega)
          have HT : Hid (stP s.data.toList (1) = (10 * a + (x.toNat : Int) - 48, b, c)) := by
            refine HS.out.trans ?_
            rw [if_neg (by decide), if_pos (by decide)]
            rw [show 10 * a + ((x.toNat : Int) - 48) = 10 * a + (x.toNat : Int) - 48 by omega]
          have HC := Lib.hid (cells3_0 (w := w) (wr := wr) ⟨k0, k1, k2, f0, f1, f2⟩ (10 * a + (x.toNat : Int) - 48))
          have HB := Lib.hid ((hbl.out.setCell (p := ⟨w.heap.size, 0, none⟩) (Nat.le_refl _) (.int .i64 (10 * a + (x.toNat : Int) - 48))).drew)
          clear HX HK HD hd HS hbl
          go_wp2
          go_region
          go_wp2
          go_round
          case rel => exact ⟨1, 10 * a + (x.toNat : Int) - 48, b, c, by omega, rfl, rfl, by omega, by omega, by omega, by rw [hb11]; omega, by rw [hb11]; omega, by rw [hb11]; omega, HC, HT, HZ, HB⟩
          case measure => simp [intOf]
      · have hb10 : (10 : Int) ^ 1 = 10 := by decide
        have hb11 : (10 : Int) ^ 2 = 100 := by decide
        rw [hb10] at a1 b1 c1
        rw [show atI 1 = 0 from rfl]
        have HD := Lib.hid (dgB_iff x)
        cases hd : dgB x
        · by_cases x0 : (x.toNat : Int) < 48
          · have d0 : decide ((x.toNat : Int) < 48) = true := decide_eq_true x0
            have HZ := Lib.hid (pa_bad HF.out (HX.out (hd)))
            clear HX HK HD HS HF HE
            go_wp2
            go_ret2
            exact ⟨ret_pair HZ.out.1.symm HZ.out.2.symm, hbl.out⟩
          · have x1 : 57 < (x.toNat : Int) := by
              rcases Int.lt_or_le 57 (x.toNat : Int) with g | g
              · exact g
              · have := HD.out.2 ⟨by omega, g⟩
                rw [hd] at this; cases this
            have d0 : decide ((x.toNat : Int) < 48) = false := decide_eq_false x0
            have d1 : decide (57 < (x.toNat : Int)) = true := decide_eq_true x1
            have HZ := Lib.hid (pa_bad HF.out (HX.out (hd)))
            clear HX HK HD HS HF HE
            go_wp2
            go_ret2
            exact ⟨ret_pair HZ.out.1.symm HZ.out.2.symm, hbl.out⟩
        · have HZ := Lib.hid (HK.out.trans hd)
          obtain ⟨x0, x1⟩ := HD.out.1 hd
          have d0 : decide ((x.toNat : Int) < 48) = false := decide_eq_false (by omega)
          have d1 : decide (57 < (x.toNat : Int)) = false := decide_eq_false (by omega)
          have HT : Hid (stP s.data.toList (2) = (10 * a + (x.toNat : Int) - 48, b, c)) := by
            refine HS.out.trans ?_
            rw [if_neg (by decide), if_pos (by decide)]
            rw [show 10 * a + ((x.toNat : Int) - 48) = 10 * a + (x.toNat : Int) - 48 by omega]
          have HC := Lib.hid (cells3_0 (w := w) (wr := wr) ⟨k0, k1, k2, f0, f1, f2⟩ (10 * a + (x.toNat : Int) - 48))
          have HB := Lib.hid ((hbl.out.setCell (p := ⟨w.heap.size, 0, none⟩) (Nat.le_refl _) (.int .i64 (10 * a + (x.toNat : Int) - 48))).drew)
          clear HX HK HD hd HS hbl
          go_wp2
          go_region
          go_wp2
          go_round
          case rel => exact ⟨2, 10 * a + (x.toNat : Int) - 48, b, c, by omega, rfl, rfl, by omega, by omega, by omega, by rw [hb11]; omega, by rw [hb11]; omega, by rw [hb11]; omega, HC, HT, HZ, HB⟩
          case measure => simp [intOf]
      · have hb10 : (10 : Int) ^ 2 = 100 := by decide
        have hb11 : (10 : Int) ^ 3 = 1000 := by decide
        rw [hb10] at a1 b1 c1
        rw [show atI 2 = 0 from rfl]
        have HD := Lib.hid (dgB_iff x)
        cases hd : dgB x
        · by_cases x0 : (x.toNat : Int) < 48
          · have d0 : decide ((x.toNat : Int) < 48) = true := decide_eq_true x0
            have HZ := Lib.hid (pa_bad HF.out (HX.out (hd)))
            clear HX HK HD HS HF HE
            go_wp2
            go_ret2
            exact ⟨ret_pair HZ.out.1.symm HZ.out.2.symm, hbl.out⟩
          · have x1 : 57 < (x.toNat : Int) := by
              rcases Int.lt_or_le 57 (x.toNat : Int) with g | g
              · exact g
              · have := HD.out.2 ⟨by omega, g⟩
                rw [hd] at this; cases this
            have d0 : decide ((x.toNat : Int) < 48) = false := decide_eq_false x0
            have d1 : decide (57 < (x.toNat : Int)) = true := decide_eq_true x1
            have HZ := Lib.hid (pa_bad HF.out (HX.out (hd)))
            clear HX HK HD HS HF HE
            go_wp2
            go_ret2
            exact ⟨ret_pair HZ.out.1.symm HZ.out.2.symm, hbl.out⟩
        · have HZ := Lib.hid (HK.out.trans hd)
          obtain ⟨x0, x1⟩ := HD.out.1 hd
          have d0 : decide ((x.toNat : Int) < 48) = false := decide_eq_false (by omega)
          have d1 : decide (57 < (x.toNat : Int)) = false := decide_eq_false (by omega)
          have HT : Hid (stP s.data.toList (3) = (10 * a + (x.toNat : Int) - 48, b, c)) := by
            refine HS.out.trans ?_
            rw [if_neg (by decide), if_pos (by decide)]
            rw [show 10 * a + ((x.toNat : Int) - 48) = 10 * a + (x.toNat : Int) - 48 by omega]
          have HC := Lib.hid (cells3_0 (w := w) (wr := wr) ⟨k0, k1, k2, f0, f1, f2⟩ (10 * a + (x.toNat : Int) - 48))
          have HB := Lib.hid ((hbl.out.setCell (p := ⟨w.heap.size, 0, none⟩) (Nat.le_refl _) (.int .i64 (10 * a + (x.toNat : Int) - 48))).drew)
          clear HX HK HD hd HS hbl
          go_wp2
          go_region
          go_wp2
          go_round
          case rel => exact ⟨3, 10 * a + (x.toNat : Int) - 48, b, c, by omega, rfl, rfl, by omega, by omega, by omega, by rw [hb11]; omega, by rw [hb11]; omega, by rw [hb11]; omega, HC, HT, HZ, HB⟩
          case measure => simp [intOf]
      · have hb10 : (10 : Int) ^ 3 = 1000 := by decide
        have hb11 : (10 : Int) ^ 4 = 10000 := by decide
        rw [hb10] at a1 b1 c1
        rw [show atI 3 = 0 from rfl]
        have HD := Lib.hid (dgB_iff x)
        cases hd : dgB x
        · by_cases x0 : (x.toNat : Int) < 48
          · have d0 : decide ((x.toNat : Int) < 48) = true := decide_eq_true x0
            have HZ := Lib.hid (pa_bad HF.out (HX.out (hd)))
            clear HX HK HD HS HF HE
            go_wp2
            go_ret2
            exact ⟨ret_pair HZ.out.1.symm HZ.out.2.symm, hbl.out⟩
          · have x1 : 57 < (x.toNat : Int) := by
              rcases Int.lt_or_le 57 (x.toNat : Int) with g | g
              · exact g
              · have := HD.out.2 ⟨by omega, g⟩
                rw [hd] at this; cases this
            have d0 : decide ((x.toNat : Int) < 48) = false := decide_eq_false x0
            have d1 : decide (57 < (x.toNat : Int)) = true := decide_eq_true x1
            have HZ := Lib.hid (pa_bad HF.out (HX.out (hd)))
            clear HX HK HD HS HF HE
            go_wp2
            go_ret2
            exact ⟨ret_pair HZ.out.1.symm HZ.out.2.symm, hbl.out⟩
        · have HZ := Lib.hid (HK.out.trans hd)
          obtain ⟨x0, x1⟩ := HD.out.1 hd
          have d0 : decide ((x.toNat : Int) < 48) = false := decide_eq_false (by omega)
          have d1 : decide (57 < (x.toNat : Int)) = false := decide_eq_false (by omega)
          have HT : Hid (stP s.data.toList (4) = (10 * a + (x.toNat : Int) - 48, b, c)) := by
            refine HS.out.trans ?_
            rw [if_neg (by decide), if_pos (by decide)]
            rw [show 10 * a + ((x.toNat : Int) - 48) = 10 * a + (x.toNat : Int) - 48 by omega]
          have HC := Lib.hid (cells3_0 (w := w) (wr := wr) ⟨k0, k1, k2, f0, f1, f2⟩ (10 * a + (x.toNat : Int) - 48))
          have HB := Lib.hid ((hbl.out.setCell (p := ⟨w.heap.size, 0, none⟩) (Nat.le_refl _) (.int .i64 (10 * a + (x.toNat : Int) - 48))).drew)
          clear HX HK HD hd HS hbl
          go_wp2
          go_region
          go_wp2
          go_round
          case rel => exact ⟨4, 10 * a + (x.toNat : Int) - 48, b, c, by omega, rfl, rfl, by omega, by omega, by omega, by rw [hb11]; omega, by rw [hb11]; omega, by rw [hb11]; omega, HC, HT, HZ, HB⟩
          case measure => simp [intOf]
      · have hb10 : (10 : Int) ^ 4 = 10000 := by decide
        have hb11 : (10 : Int) ^ 5 = 100000 := by decide
        rw [hb10] at a1 b1 c1
        rw [show atI 4 = 0 from rfl]
        by_cases hd : x = 45
        · have HZ : Hid (fmK s.data.toList (5) = true) := by
            refine HK.out.trans ?_
            rw [hd]; decide
          have hn : ((x.toNat : Int) != 45) = false := by rw [ne45, hd]; rfl
          have he : ((x.toNat : Int) == 45) = true := by rw [hd]; rfl
          have HT : Hid (stP s.data.toList (5) = (a, b, c)) := HS.out.trans (if_pos (by decide))
          have HC : Hid (Cells3 w wr a b c) := ⟨k0, k1, k2, f0, f1, f2⟩
          clear HX HK HS hd
          go_wp2
          go_round
          case rel => exact ⟨5, a, b, c, by omega, rfl, rfl, by omega, by omega, by omega, by rw [hb11]; omega, by rw [hb11]; omega, by rw [hb11]; omega, HC, HT, HZ, hbl⟩
          case measure => simp [intOf]
        · have hn : ((x.toNat : Int) != 45) = true := by rw [ne45, decide_eq_false hd]; rfl
          have he : ((x.toNat : Int) == 45) = false := by
            have := ne45 x
            rw [decide_eq_false hd, bne] at this
            simpa using this
          have HD := Lib.hid (show atB 4 x = false from decide_eq_false hd)
          have HZ := Lib.hid (pa_bad HF.out (HX.out (HD.out)))
          clear HX HK HD HS HF HE
          go_wp2
          go_ret2
          exact ⟨ret_pair HZ.out.1.symm HZ.out.2.symm, hbl.out⟩
      · have hb10 : (10 : Int) ^ 5 = 100000 := by decide
        have hb11 : (10 : Int) ^ 6 = 1000000 := by decide
        rw [hb10] at a1 b1 c1
        rw [show atI 5 = 1 from rfl]
        have HD := Lib.hid (dgB_iff x)
        cases hd : dgB x
        · by_cases x0 : (x.toNat : Int) < 48
          · have d0 : decide ((x.toNat : Int) < 48) = true := decide_eq_true x0
            have HZ := Lib.hid (pa_bad HF.out (HX.out (hd)))
            clear HX HK HD HS HF HE
            go_wp2
            go_ret2
            exact ⟨ret_pair HZ.out.1.symm HZ.out.2.symm, hbl.out⟩
          · have x1 : 57 < (x.toNat : Int) := by
              rcases Int.lt_or_le 57 (x.toNat : Int) with g | g
              · exact g
              · have := HD.out.2 ⟨by omega, g⟩
                rw [hd] at this; cases this
            have d0 : decide ((x.toNat : Int) < 48) = false := decide_eq_false x0
            have d1 : decide (57 < (x.toNat : Int)) = true := decide_eq_true x1
            have HZ := Lib.hid (pa_bad HF.out (HX.out (hd)))
            clear HX HK HD HS HF HE
            go_wp2
            go_ret2
            exact ⟨ret_pair HZ.out.1.symm HZ.out.2.symm, hbl.out⟩
        · have HZ := Lib.hid (HK.out.trans hd)
          obtain ⟨x0, x1⟩ := HD.out.1 hd
          have d0 : decide ((x.toNat : Int) < 48) = false := decide_eq_false (by omega)
          have d1 : decide (57 < (x.toNat : Int)) = false := decide_eq_false (by omega)
          have HT : Hid (stP s.data.toList (6) = (a, 10 * b + (x.toNat : Int) - 48, c)) := by
            refine HS.out.trans ?_
            rw [if_neg (by decide), if_neg (by decide), if_pos (by decide)]
            rw [show 10 * b + ((x.toNat : Int) - 48) = 10 * b + (x.toNat : Int) - 48 by omega]
          have HC := Lib.hid (cells3_1 (w := w) (wr := wr) ⟨k0, k1, k2, f0, f1, f2⟩ (10 * b + (x.toNat : Int) - 48))
          have HB := Lib.hid ((hbl.out.setCell (p := ⟨w.heap.size, 1, none⟩) (Nat.le_refl _) (.int .i64 (10 * b + (x.toNat : Int) - 48))).drew)
          clear HX HK HD hd HS hbl
          go_wp2
          go_region
          go_wp2
          go_round
          case rel => exact ⟨6, a, 10 * b + (x.toNat : Int) - 48, c, by omega, rfl, rfl, by omega, by omega, by omega, by rw [hb11]; omega, by rw [hb11]; omega, by rw [hb11]; omega, HC, HT, HZ, HB⟩
          case measure => simp [intOf]
      · have hb10 : (10 : Int) ^ 6 = 1000000 := by decide
        have hb11 : (10 : Int) ^ 7 = 10000000 := by decide
        rw [hb10] at a1 b1 c1
        rw [show atI 6 = 1 from rfl]
        have HD := Lib.hid (dgB_iff x)
        cases hd : dgB x
        · by_cases x0 : (x.toNat : Int) < 48
          · have d0 : decide ((x.toNat : Int) < 48) = true := decide_eq_true x0
            have HZ := Lib.hid (pa_bad HF.out (HX.out (hd)))
            clear HX HK HD HS HF HE
            go_wp2
            go_ret2
            exact ⟨ret_pair HZ.out.1.symm HZ.out.2.symm, hbl.out⟩
          · have x1 : 57 < (x.toNat : Int) := by
              rcases Int.lt_or_le 57 (x.toNat : Int) with g | g
              · exact g
              · have := HD.out.2 ⟨by omega, g⟩
                rw [hd] at this; cases this
            have d0 : decide ((x.toNat : Int) < 48) = false := decide_eq_false x0
            have d1 : decide (57 < (x.toNat : Int)) = true := decide_eq_true x1
            have HZ := Lib.hid (pa_bad HF.out (HX.out (hd)))
            clear HX HK HD HS HF HE
            go_wp2
            go_ret2
            exact ⟨ret_pair HZ.out.1.symm HZ.out.2.symm, hbl.out⟩
        · have HZ := Lib.hid (HK.out.trans hd)
          obtain ⟨x0, x1⟩ := HD.out.1 hd
          have d0 : decide ((x.toNat : Int) < 48) = false := decide_eq_false (by omega)
          have d1 : decide (57 < (x.toNat : Int)) = false := decide_eq_false (by omega)
          have HT : Hid (stP s.data.toList (7) = (a, 10 * b + (x.toNat : Int) - 48, c)) := by
            refine HS.out.trans ?_
            rw [if_neg (by decide), if_neg (by decide), if_pos (by decide)]
            rw [show 10 * b + ((x.toNat : Int) - 48) = 10 * b + (x.toNat : Int) - 48 by omega]
          have HC := Lib.hid (cells3_1 (w := w) (wr := wr) ⟨k0, k1, k2, f0, f1, f2⟩ (10 * b + (x.toNat : Int) - 48))
          have HB := Lib.hid ((hbl.out.setCell (p := ⟨w.heap.size, 1, none⟩) (Nat.le_refl _) (.int .i64 (10 * b + (x.toNat : Int) - 48))).drew)
          clear HX HK HD hd HS hbl
          go_wp2
          go_region
          go_wp2
          go_round
          case rel => exact ⟨7, a, 10 * b + (x.toNat : Int) - 48, c, by omega, rfl, rfl, by omega, by omega, by omega, by rw [hb11]; omega, by rw [hb11]; omega, by rw [hb11]; omega, HC, HT, HZ, HB⟩
          case measure => simp [intOf]
      · have hb10 : (10 : Int) ^ 7 = 10000000 := by decide
        have hb11 : (10 : Int) ^ 8 = 100000000 := by decide
        rw [hb10] at a1 b1 c1
        rw [show atI 7 = 1 from rfl]
        by_cases hd : x = 45
        · have HZ : Hid (fmK s.data.toList (8) = true) := by
            refine HK.out.trans ?_
            rw [hd]; decide
          have hn : ((x.toNat : Int) != 45) = false := by rw [ne45, hd]; rfl
          have he : ((x.toNat : Int) == 45) = true := by rw [hd]; rfl
          have HT : Hid (stP s.data.toList (8) = (a, b, c)) := HS.out.trans (if_pos (by decide))
          have HC : Hid (Cells3 w wr a b c) := ⟨k0, k1, k2, f0, f1, f2⟩
          clear HX HK HS hd
          go_wp2
          go_round
          case rel => exact ⟨8, a, b, c, by omega, rfl, rfl, by omega, by omega, by omega, by rw [hb11]; omega, by rw [hb11]; omega, by rw [hb11]; omega, HC, HT, HZ, hbl⟩
          case measure => simp [intOf]
        · have hn : ((x.toNat : Int) != 45) = true := by rw [ne45, decide_eq_false hd]; rfl
          have he : ((x.toNat : Int) == 45) = false := by
            have := ne45 x
            rw [decide_eq_false hd, bne] at this
            simpa using this
          have HD := Lib.hid (show atB 7 x = false from decide_eq_false hd)
          have HZ := Lib.hid (pa_bad HF.out (HX.out (HD.out)))
          clear HX HK HD HS HF HE
          go_wp2
          go_ret2
          exact ⟨ret_pair HZ.out.1.symm HZ.out.2.symm, hbl.out⟩
      · have hb10 : (10 : Int) ^ 8 = 100000000 := by decide
        have hb11 : (10 : Int) ^ 9 = 1000000000 := by decide
        rw [hb10] at a1 b1 c1
        rw [show atI 8 = 2 from rfl]
        have HD := Lib.hid (dgB_iff x)
        cases hd : dgB x
        · by_cases x0 : (x.toNat : Int) < 48
          · have d0 : decide ((x.toNat : Int) < 48) = true := decide_eq_true x0
            have HZ := Lib.hid (pa_bad HF.out (HX.out (hd)))
            clear HX HK HD HS HF HE
            go_wp2
            go_ret2
            exact ⟨ret_pair HZ.out.1.symm HZ.out.2.symm, hbl.out⟩
          · have x1 : 57 < (x.toNat : Int) := by
              rcases Int.lt_or_le 57 (x.toNat : Int) with g | g
              · exact g
              · have := HD.out.2 ⟨by omega, g⟩
                rw [hd] at this; cases this
            have d0 : decide ((x.toNat : Int) < 48) = false := decide_eq_false x0
            have d1 : decide (57 < (x.toNat : Int)) = true := decide_eq_true x1
            have HZ := Lib.hid (pa_bad HF.out (HX.out (hd)))
            clear HX HK HD HS HF HE
            go_wp2
            go_ret2
            exact ⟨ret_pair HZ.out.1.symm HZ.out.2.symm, hbl.out⟩
        · have HZ := Lib.hid (HK.out.trans hd)
          obtain ⟨x0, x1⟩ := HD.out.1 hd
          have d0 : decide ((x.toNat : Int) < 48) = false := decide_eq_false (by omega)
          have d1 : decide (57 < (x.toNat : Int)) = false := decide_eq_false (by omega)
          have HT : Hid (stP s.data.toList (9) = (a, b, 10 * c + (x.toNat : Int) - 48)) := by
            refine HS.out.trans ?_
            rw [if_neg (by decide), if_neg (by decide), if_neg (by decide)]
            rw [show 10 * c + ((x.toNat : Int) - 48) = 10 * c + (x.toNat : Int) - 48 by omega]
          have HC := Lib.hid (cells3_2 (w := w) (wr := wr) ⟨k0, k1, k2, f0, f1, f2⟩ (10 * c + (x.toNat : Int) - 48))
          have HB := Lib.hid ((hbl.out.setCell (p := ⟨w.heap.size, 2, none⟩) (Nat.le_refl _) (.int .i64 (10 * c + (x.toNat : Int) - 48))).drew)
          clear HX HK HD hd HS hbl
          go_wp2
          go_region
          go_wp2
          go_round
          case rel => exact ⟨9, a, b, 10 * c + (x.toNat : Int) - 48, by omega, rfl, rfl, by omega, by omega, by omega, by rw [hb11]; omega, by rw [hb11]; omega, by rw [hb11]; omega, HC, HT, HZ, HB⟩
          case measure => simp [intOf]
      · have hb10 : (10 : Int) ^ 9 = 1000000000 := by decide
        have hb11 : (10 : Int) ^ 10 = 10000000000 := by decide
        rw [hb10] at a1 b1 c1
        rw [show atI 9 = 2 from rfl]
        have HD := Lib.hid (dgB_iff x)
        cases hd : dgB x
        · by_cases x0 : (x.toNat : Int) < 48
          · have d0 : decide ((x.toNat : Int) < 48) = true := decide_eq_true x0
            have HZ := Lib.hid (pa_bad HF.out (HX.out (hd)))
            clear HX HK HD HS HF HE
            go_wp2
            go_ret2
            exact ⟨ret_pair HZ.out.1.symm HZ.out.2.symm, hbl.out⟩
          · have x1 : 57 < (x.toNat : Int) := by
              rcases Int.lt_or_le 57 (x.toNat : Int) with g | g
              · exact g
              · have := HD.out.2 ⟨by omega, g⟩
                rw [hd] at this; cases this
            have d0 : decide ((x.toNat : Int) < 48) = false := decide_eq_false x0
            have d1 : decide (57 < (x.toNat : Int)) = true := decide_eq_true x1
            have HZ := Lib.hid (pa_bad HF.out (HX.out (hd)))
            clear HX HK HD HS HF HE
            go_wp2
            go_ret2
            exact ⟨ret_pair HZ.out.1.symm HZ.out.2.symm, hbl.out⟩
        · have HZ := Lib.hid (HK.out.trans hd)
          obtain ⟨x0, x1⟩ := HD.out.1 hd
          have d0 : decide ((x.toNat : Int) < 48) = false := decide_eq_false (by omega)
          have d1 : decide (57 < (x.toNat : Int)) = false := decide_eq_false (by omega)
          have HT : Hid (stP s.data.toList (10) = (a, b, 10 * c + (x.toNat : Int) - 48)) := by
            refine HS.out.trans ?_
            rw [if_neg (by decide), if_neg (by decide), if_neg (by decide)]
            rw [show 10 * c + ((x.toNat : Int) - 48) = 10 * c + (x.toNat : Int) - 48 by omega]
          have HC := Lib.hid (cells3_2 (w := w) (wr := wr) ⟨k0, k1, k2, f0, f1, f2⟩ (10 * c + (x.toNat : Int) - 48))
          have HB := Lib.hid ((hbl.out.setCell (p := ⟨w.heap.size, 2, none⟩) (Nat.le_refl _) (.int .i64 (10 * c + (x.toNat : Int) - 48))).drew)
          clear HX HK HD hd HS hbl
          go_wp2
          go_region
          go_wp2
          go_round
          case rel => exact ⟨10, a, b, 10 * c + (x.toNat : Int) - 48, by omega, rfl, rfl, by omega, by omega, by omega, by rw [hb11]; omega, by rw [hb11]; omega, by rw [hb11]; omega, HC, HT, HZ, HB⟩
          case measure => simp [intOf]
    · obtain rfl : k = 10 := by omega
      obtain ⟨k0, k1, k2, f0, f1, f2⟩ := hcl.out
      have hp := hst.out.symm.trans HE.out
      have hg := pa_good HF.out hf.out
      simp only [Prod.mk.injEq] at hp
      obtain ⟨e1, e2, e3⟩ := hp
      rw [← e1, ← e2, ← e3] at hg
      have HG := Lib.hid hg
      have HO := Lib.hid (fun w1 => refOf_any a b c w1)
      clear hst e1 e2 e3 hg hf HE HF hcl a1 b1 c1
      rw [show ((10 : Nat) : Int) = 10 from rfl, show atI 10 = 2 from rfl]
      go_wp2_with (go_at_call 20; ((with_reducible refine (HO.out _).mono ?_); rintro e w2 ⟨rfl, rfl⟩))
      go_ret2
      exact ⟨ret_pair HG.out.1.symm HG.out.2.symm, hbl.out⟩

theorem refParse_any (s : ByteArray) (w : World) :
    Calls Tryd.prog 28 #[.string s] w fun e w' => e = .returned (.tuple #[.int .i64 (paV s.data.toList), .int .i64 (paE s.data.toList)]) ∧ Below w.heap.size w w' := by
  by_cases h10 : s.size = 10
  · exact refParse_ten s h10 w
  · have hl : ¬ s.data.toList.length = 10 := by rw [← Lib.size_eq s]; exact h10
    have hb : ((s.size : Int) == 10) = false := by rw [beq_eq_false_iff_ne]; omega
    have hb2 : ((s.size : Int) != 10) = true := by rw [bne, hb]; rfl
    have hp : paV s.data.toList = 0 ∧ paE s.data.toList = 12 := by
      have : fmB s.data.toList = false := by unfold fmB; rw [decide_eq_false hl]; rfl
      unfold paV paE; rw [this]; exact ⟨rfl, rfl⟩
    rw [hp.1, hp.2]
    clear hl hp
    go_enter Tryd.func28, Tryd.ntmps28
    go_wp2
    go_ret2
    first | exact ⟨rfl, Below.refl _ _⟩ | exact ⟨rfl, (Below.refl _ _).alloc (Nat.le_refl _) _⟩
end Go.Proofs.YteigcgncbkjmaaaDoor

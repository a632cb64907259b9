/- The walk of the law IntegerSmall. -/
import Derived.Test.YtifomledobibeaaDoorIntB
import Derived.Test.YtifomledobibeaaDoorIntR7
namespace Go.Proofs.YtifomledobibeaaDoor
open Go Go.RowKit

theorem great_one (s : ByteArray) (r : Bool) (hr : decide (1100 < s.size) = r) (w : World) (t : TypeId) :
    Calls Tryd.prog 22 #[.slice (some ⟨w.heap.size, 0, none⟩) 1 1] (w.alloc (.cells #[.string s] t)) fun e w' => e = .returned (.bool r) ∧ w.alloc (.cells #[.string s] t) = w' := by
  have h := great_any (some ⟨w.heap.size, 0, none⟩) 1 [s] (w.alloc (.cells #[.string s] t)) (SlA.of_cells (heap_alloc_new w _) rfl) (by unfold maxLen; simp)
  have e : grt [s] = r := by rw [← hr]; simp [grt]
  rw [e] at h
  exact h

theorem small_law_great (n : Int) (s : ByteArray) (hs : 1100 < s.size) (w : World) :
    Calls Tryd.prog 6 #[.int .i64 n, .string s] w fun e w' => e = .returned (.bool true) ∧ Below w.heap.size w w' := by
  have HG := Lib.hid (great_one s true (decide_eq_true hs) w)
  clear hs
  go_enter Tryd.func6, Tryd.ntmps6
  go_wp2_with (go_at_call 22; refine (HG.out _).mono ?_; rintro e w1 ⟨rfl, rfl⟩)
  go_ret
  exact ⟨rfl, (Below.refl _ _).alloc (Nat.le_refl _) _⟩

theorem to_of (n : Int) (h0 : -9223372036854775808 ≤ n) (h1 : n ≤ 9223372036854775807) (w : World) (hv : Vars w) :
    Calls Tryd.prog 18 #[.string ⟨(Lib.itoa n).toArray⟩] w fun e w' => e = .returned (.tuple #[.int .i64 n, .int .i64 0]) ∧ Below w.heap.size w w' := by
  have hc := chk_of_abs (small_abs n h0 h1)
  have h := to_any ⟨(Lib.itoa n).toArray⟩ (by have := len_of_chk hc; show (Lib.itoa n).length ≤ _; omega) w hv
  have e : toS (Lib.itoa n) = (n, 0) := by
    unfold toS; rw [if_pos hc, num_itoa, if_pos ⟨h0, h1⟩]
  rw [show (⟨(Lib.itoa n).toArray⟩ : ByteArray).data.toList = Lib.itoa n from rfl, e] at h
  exact h

set_option maxRecDepth 100000 in
set_option maxHeartbeats 800000 in
theorem small_law (n : Int) (h0 : -9223372036854775808 ≤ n) (h1 : n ≤ 9223372036854775807) (s : ByteArray) (w : World) (hv : Vars w) :
    Calls Tryd.prog 6 #[.int .i64 n, .string s] w fun e w' => e = .returned (.bool true) ∧ Below w.heap.size w w' := by
  by_cases hs : 1100 < s.size
  · exact small_law_great n s hs w
  have HG := Lib.hid (great_one s false (decide_eq_false hs) w)
  have HT := Lib.hid (to_any s (by omega))
  have HR := Lib.hid (refTo_any s (by omega))
  have hF : (toS s.data.toList).2 = 0 → -9223372036854775808 ≤ (toS s.data.toList).1 ∧ (toS s.data.toList).1 ≤ 9223372036854775807 ∧ (⟨(Lib.itoa (toS s.data.toList).1).toArray⟩ : ByteArray) = s := by
    unfold toS
    by_cases hc : chk s.data.toList = 0
    · rw [if_pos hc]
      by_cases hz : -9223372036854775808 ≤ num s.data.toList ∧ num s.data.toList ≤ 9223372036854775807
      · rw [if_pos hz]
        intro _
        refine ⟨hz.1, hz.2, ?_⟩
        show (⟨(Lib.itoa (num s.data.toList)).toArray⟩ : ByteArray) = s
        rw [← itoa_zero_num _ hc, Lib.mk_data]
      · rw [if_neg hz]; intro h; exact absurd h (by decide)
    · rw [if_neg hc]; intro h; exact absurd h hc
  obtain ⟨x, hx⟩ : ∃ x, (toS s.data.toList).1 = x := ⟨_, rfl⟩
  obtain ⟨f, hf⟩ : ∃ f, (toS s.data.toList).2 = f := ⟨_, rfl⟩
  rw [hx, hf] at HT HR hF
  have HO := Lib.hid (of_any n h0 h1)
  have HRO := Lib.hid (refOf_any n h0 h1)
  have HTO := Lib.hid (to_of n h0 h1)
  generalize (⟨(Lib.itoa n).toArray⟩ : ByteArray) = u at HO HRO HTO
  clear hx hf hs
  have hal : ∀ o, Below w.heap.size w (w.alloc o) := fun o => (Below.refl _ _).alloc (Nat.le_refl _) o
  have HAL := Lib.hid hal
  have HV := Lib.hid hv
  clear hal hv
  by_cases hf0 : f = 0
  · subst hf0
    obtain ⟨hx0, hx1, hxs⟩ := hF rfl
    have HO2 := Lib.hid (of_any x hx0 hx1)
    rw [hxs] at HO2
    clear hxs hF
    go_enter Tryd.func6, Tryd.ntmps6
    go_wp2_with (first
      | (go_at_call 22; refine (HG.out _).mono ?_; rintro e w1 ⟨rfl, rfl⟩)
      | (go_at_call 18; (with_reducible refine (HT.out _ (HV.out.below (HAL.out _))).mono ?_); rintro e w2 ⟨rfl, hb2⟩)
      | (go_at_call 30; refine (HR.out _).mono ?_; rintro e w3 ⟨rfl, hb3⟩)
      | (go_at_call 21; (with_reducible refine (HO.out _ (((HV.out.below (HAL.out _)).below hb2).below hb3)).mono ?_); rintro e w4 ⟨rfl, hb4⟩))
    have hv4 := (((HV.out.below (HAL.out _)).below hb2).below hb3).below hb4
    refine (HTO.out _ hv4).mono ?_
    rintro e w5 ⟨rfl, hb5⟩
    have HV5 := Lib.hid (hv4.below hb5)
    have HB5 := Lib.hid (bt (bt (bt (bt (HAL.out _) hb2) hb3) hb4) hb5)
    clear hv4 hb2 hb3 hb4 hb5 HTO HT HR HG
    go_wp2_with (first
      | (go_at_call 21; (with_reducible refine (HO.out _ HV5.out).mono ?_); rintro e w6 ⟨rfl, hb6⟩; have HB6 := Lib.hid hb6; clear hb6)
      | (go_at_call 31; refine (HRO.out _).mono ?_; rintro e w7 ⟨rfl, hb7⟩; have HB7 := Lib.hid hb7; clear hb7)
      | (go_at_call 21; (with_reducible refine (HO2.out _ ((HV5.out.below HB6.out).below HB7.out)).mono ?_); rintro e w8 ⟨rfl, hb8⟩; have HB8 := Lib.hid hb8; clear hb8))
    go_ret
    exact ⟨rfl, bt (bt (bt HB5.out HB6.out) HB7.out) HB8.out⟩
  · have hf1 : (f == 0) = false := by rw [beq_eq_false_iff_ne]; exact hf0
    have hf2 : (f != 0) = true := by rw [bne_iff_ne]; exact hf0
    clear hF hf0
    go_enter Tryd.func6, Tryd.ntmps6
    go_wp2_with (first
      | (go_at_call 22; refine (HG.out _).mono ?_; rintro e w1 ⟨rfl, rfl⟩)
      | (go_at_call 18; (with_reducible refine (HT.out _ (HV.out.below (HAL.out _))).mono ?_); rintro e w2 ⟨rfl, hb2⟩)
      | (go_at_call 30; refine (HR.out _).mono ?_; rintro e w3 ⟨rfl, hb3⟩)
      | (go_at_call 21; (with_reducible refine (HO.out _ (((HV.out.below (HAL.out _)).below hb2).below hb3)).mono ?_); rintro e w4 ⟨rfl, hb4⟩))
    have hv4 := (((HV.out.below (HAL.out _)).below hb2).below hb3).below hb4
    refine (HTO.out _ hv4).mono ?_
    rintro e w5 ⟨rfl, hb5⟩
    have HV5 := Lib.hid (hv4.below hb5)
    have HB5 := Lib.hid (bt (bt (bt (bt (HAL.out _) hb2) hb3) hb4) hb5)
    clear hv4 hb2 hb3 hb4 hb5 HTO HT HR HG
    go_wp2_with (first
      | (go_at_call 21; (with_reducible refine (HO.out _ HV5.out).mono ?_); rintro e w6 ⟨rfl, hb6⟩; have HB6 := Lib.hid hb6; clear hb6)
      | (go_at_call 31; refine (HRO.out _).mono ?_; rintro e w7 ⟨rfl, hb7⟩; have HB7 := Lib.hid hb7; clear hb7))
    go_ret
    exact ⟨rfl, bt (bt HB5.out HB6.out) HB7.out⟩
end Go.Proofs.YtifomledobibeaaDoor

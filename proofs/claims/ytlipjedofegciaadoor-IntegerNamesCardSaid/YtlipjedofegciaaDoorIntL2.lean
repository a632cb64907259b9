/- The walk of the law IntegerTells. -/
import Derived.Test.YtlipjedofegciaaDoorIntO3
import Derived.Test.YtlipjedofegciaaDoorIntR7
namespace Go.Proofs.YtlipjedofegciaaDoor
open Go Go.RowKit

theorem great_two (s t : ByteArray) (r : Bool) (hr : (decide (1100 < s.size) || decide (1100 < t.size)) = r) (w : World) (ty : TypeId) :
    Calls Tryd.prog 23 #[.slice (some ⟨w.heap.size, 0, none⟩) 2 2] (w.alloc (.cells #[.string s, .string t] ty)) fun e w' => e = .returned (.bool r) ∧ w.alloc (.cells #[.string s, .string t] ty) = w' := by
  have h := great_any (some ⟨w.heap.size, 0, none⟩) 2 [s, t] (w.alloc (.cells #[.string s, .string t] ty)) (SlA.of_cells (heap_alloc_new w _) rfl) (by unfold maxLen; simp)
  have e : grt [s, t] = r := by rw [← hr]; simp [grt]
  rw [e] at h
  exact h

set_option maxRecDepth 100000 in
set_option maxHeartbeats 1600000 in
theorem tells_law (s t : ByteArray) (w : World) (hv : VarT w) :
    Calls Tryd.prog 4 #[.string s, .string t] w fun e w' => e = .returned (.bool true) ∧ Below w.heap.size w w' := by
  by_cases hg : (decide (1100 < s.size) || decide (1100 < t.size)) = true
  · have HG := Lib.hid (great_two s t true hg w)
    clear hg
    go_enter Tryd.func4, Tryd.ntmps4
    go_wp2_with (go_at_call 23; refine (HG.out _).mono ?_; rintro e w1 ⟨rfl, rfl⟩)
    go_ret
    exact ⟨rfl, (Below.refl _ _).alloc (Nat.le_refl _) _⟩
  · have HG := Lib.hid (great_two s t false (by simpa using hg) w)
    have hs : s.size ≤ 1100 := by simp at hg; omega
    have ht : t.size ≤ 1100 := by simp at hg; omega
    have hs1 : s.size ≤ maxLen := by unfold maxLen; omega
    have ht1 : t.size ≤ maxLen := by unfold maxLen; omega
    have CA := Lib.hid (fun W h => add_any s t hs1 ht1 W h)
    have CS := Lib.hid (fun W h => sub_any s t hs1 ht1 W h)
    have CM := Lib.hid (fun W h => mul_any s t hs1 ht1 W h)
    have CC := Lib.hid (fun W h => compare_any s t hs1 ht1 W h)
    have CK := Lib.hid (fun W => check_any s W hs1)
    have RA := Lib.hid (refAdd_any s t (by omega) (by omega))
    have RS := Lib.hid (refSub_any s t (by omega) (by omega))
    have RM := Lib.hid (refMul_any s t (by omega) (by omega))
    have RC := Lib.hid (refCompare_any s t (by omega) (by omega))
    have RK := Lib.hid (fun W => refCheck_any s W (by omega))
    generalize opS (· + ·) s.data.toList t.data.toList = ra at CA RA
    generalize opS (· - ·) s.data.toList t.data.toList = rs at CS RS
    generalize opS (· * ·) s.data.toList t.data.toList = rm at CM RM
    generalize cmpS s.data.toList t.data.toList = rc at CC RC
    generalize chk s.data.toList = k at CK RK
    have HB0 := Lib.hid (fun o => (Below.refl _ w).alloc (Nat.le_refl _) o)
    have HV := Lib.hid hv
    clear hg hs ht hs1 ht1 hv
    go_enter Tryd.func4, Tryd.ntmps4
    go_wp2_with (first
      | (go_at_call 23; refine (HG.out _).mono ?_; rintro e w1 ⟨rfl, rfl⟩; have HB1 := Lib.hid (HB0.out (.cells #[.string s, .string t] 22)))
      | (go_at_call 14; refine (CA.out _ (HV.out.below HB1.out)).mono ?_; rintro e w2 ⟨rfl, b⟩; have HB2 := Lib.hid (bt HB1.out b); clear b)
      | (go_at_call 24; refine (RA.out _).mono ?_; rintro e w3 ⟨rfl, b⟩; have HB3 := Lib.hid (bt HB2.out b); clear b)
      | (go_at_call 15; refine (CS.out _ (HV.out.below HB3.out)).mono ?_; rintro e w4 ⟨rfl, b⟩; have HB4 := Lib.hid (bt HB3.out b); clear b)
      | (go_at_call 25; refine (RS.out _).mono ?_; rintro e w5 ⟨rfl, b⟩; have HB5 := Lib.hid (bt HB4.out b); clear b)
      | (go_at_call 16; refine (CM.out _ (HV.out.below HB5.out)).mono ?_; rintro e w6 ⟨rfl, b⟩; have HB6 := Lib.hid (bt HB5.out b); clear b)
      | (go_at_call 26; refine (RM.out _).mono ?_; rintro e w7 ⟨rfl, b⟩; have HB7 := Lib.hid (bt HB6.out b); clear b)
      | (go_at_call 20; refine (CC.out _ (HV.out.below HB7.out)).mono ?_; rintro e w8 ⟨rfl, b⟩; have HB8 := Lib.hid (bt HB7.out b); clear b)
      | (go_at_call 27; refine (RC.out _).mono ?_; rintro e w9 ⟨rfl, b⟩; have HB9 := Lib.hid (bt HB8.out b); clear b)
      | (go_at_call 12; refine (CK.out _).mono ?_; rintro e wA ⟨rfl, rfl⟩)
      | (go_at_call 28; refine (RK.out _).mono ?_; rintro e wB ⟨rfl, b⟩; have HBB := Lib.hid (bt HB9.out b); clear b))
    go_ret
    exact ⟨rfl, HBB.out⟩
end Go.Proofs.YtlipjedofegciaaDoor

/- The walk of the law IntegerDivides. -/
import Derived.Test.YtlipjedofegciaaDoorIntE2
import Derived.Test.YtlipjedofegciaaDoorIntL2
namespace Go.Proofs.YtlipjedofegciaaDoor
open Go Go.RowKit

set_option maxRecDepth 100000 in
set_option maxHeartbeats 1600000 in
theorem divides_law (s t : ByteArray) (w : World) (hv : VarT w) :
    Calls Tryd.prog 5 #[.string s, .string t] w fun e w' => e = .returned (.bool true) ∧ Below w.heap.size w w' := by
  by_cases hg : (decide (1100 < s.size) || decide (1100 < t.size)) = true
  · have HG := Lib.hid (great_two s t true hg w)
    clear hg
    go_enter Tryd.func5, Tryd.ntmps5
    go_wp2_with (go_at_call 23; refine (HG.out _).mono ?_; rintro e w1 ⟨rfl, rfl⟩)
    go_ret
    exact ⟨rfl, (Below.refl _ _).alloc (Nat.le_refl _) _⟩
  · have HG := Lib.hid (great_two s t false (by simpa using hg) w)
    have hs : s.size ≤ 1100 := by simp at hg; omega
    have ht : t.size ≤ 1100 := by simp at hg; omega
    have hs1 : s.size ≤ maxLen := by unfold maxLen; omega
    have ht1 : t.size ≤ maxLen := by unfold maxLen; omega
    have CD := Lib.hid (fun W h => divmod_any s t hs1 ht1 W h)
    have CG := Lib.hid (fun W h => gcd_any s t hs1 ht1 W h)
    have RD := Lib.hid (refDivMod_any s t (by omega) (by omega))
    have RG := Lib.hid (refGcd_any s t (by omega) (by omega))
    generalize dmS s.data.toList t.data.toList = rd at CD RD
    generalize gcS s.data.toList t.data.toList = rg at CG RG
    have HB0 := Lib.hid (fun o => (Below.refl _ w).alloc (Nat.le_refl _) o)
    have HV := Lib.hid hv
    clear hg hs ht hs1 ht1 hv
    go_enter Tryd.func5, Tryd.ntmps5
    go_wp2_with (first
      | (go_at_call 23; refine (HG.out _).mono ?_; rintro e w1 ⟨rfl, rfl⟩; have HB1 := Lib.hid (HB0.out (.cells #[.string s, .string t] 22)))
      | (go_at_call 17; refine (CD.out _ (HV.out.below HB1.out)).mono ?_; rintro e w2 ⟨rfl, b⟩; have HB2 := Lib.hid (bt HB1.out b); clear b)
      | (go_at_call 29; refine (RD.out _).mono ?_; rintro e w3 ⟨rfl, b⟩; have HB3 := Lib.hid (bt HB2.out b); clear b)
      | (go_at_call 18; refine (CG.out _ (HV.out.below HB3.out)).mono ?_; rintro e w4 ⟨rfl, b⟩; have HB4 := Lib.hid (bt HB3.out b); clear b)
      | (go_at_call 30; refine (RG.out _).mono ?_; rintro e w5 ⟨rfl, b⟩; have HB5 := Lib.hid (bt HB4.out b); clear b))
    go_ret
    exact ⟨rfl, HB5.out⟩
end Go.Proofs.YtlipjedofegciaaDoor

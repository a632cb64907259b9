/- The walk of the law RationalRounds. -/
import Derived.Test.YtgjhgkglfflmjaaGreatDoorRatAm
namespace Go.Proofs.YtgjhgkglfflmjaaGreatDoor
open Go Go.RowKit

set_option maxRecDepth 100000 in
set_option maxHeartbeats 3200000 in
theorem rounds_law (a : ByteArray) (m : Int) (m0 : 0 ≤ m) (m1 : m ≤ 255) (w : World) (hv : VarR w) :
    Calls Tryz.prog 6 #[.string a, .int .u8 m] w fun e w' => e = .returned (.bool true) ∧ Below w.heap.size w w' := by
  have HB0 := Lib.hid (fun o => (Below.refl _ w).alloc (Nat.le_refl _) o)
  by_cases hg : 2100 < a.size
  · have HG := Lib.hid (great2_this a true (decide_eq_true hg) w)
    clear hg hv
    go_enter Tryz.func6, Tryz.ntmps6
    go_wp2_with (go_at_call 23; refine (HG.out _).mono ?_; rintro e w1 ⟨rfl, rfl⟩)
    go_ret
    exact ⟨rfl, HB0.out _⟩
  · have HG := Lib.hid (great2_this a false (decide_eq_false hg) w)
    have hn : a.size ≤ 1048576 := by omega
    have C1 := Lib.hid (Round_any a hn m m0 m1)
    have E1 := Lib.hid (refRound_any a hn m m0 m1)
    generalize roT m a.data.toList = t1 at C1 E1
    generalize roC m a.data.toList = c1 at C1 E1
    have HV := Lib.hid hv
    clear hg hv hn
    go_enter Tryz.func6, Tryz.ntmps6
    go_wp2_with (first
        | (go_at_call 23; refine (HG.out _).mono ?_; rintro e w2 ⟨rfl, rfl⟩; have D0 := Lib.hid (HB0.out (.cells #[.string a] 22)))
        | (go_at_call 21; (with_reducible refine (C1.out _ (HV.out.below D0.out)).mono ?_); rintro e u1 ⟨rfl, b⟩; have D1 := Lib.hid (bt D0.out b); clear b)
        | (go_at_call 33; (with_reducible refine (E1.out _).mono ?_); rintro e u2 ⟨rfl, b⟩; have D2 := Lib.hid (bt D1.out b); clear b))
    go_ret
    exact ⟨rfl, D2.out⟩
end Go.Proofs.YtgjhgkglfflmjaaGreatDoor

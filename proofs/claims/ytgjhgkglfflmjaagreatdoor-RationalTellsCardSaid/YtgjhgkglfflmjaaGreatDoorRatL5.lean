/- The walk of the law RationalTells. -/
import Derived.Test.YtgjhgkglfflmjaaGreatDoorRatAm
namespace Go.Proofs.YtgjhgkglfflmjaaGreatDoor
open Go Go.RowKit

set_option maxRecDepth 100000 in
set_option maxHeartbeats 3200000 in
theorem tells2_law (a b : ByteArray) (w : World) (hv : VarR w) :
    Calls Tryz.prog 4 #[.string a, .string b] w fun e w' => e = .returned (.bool true) ∧ Below w.heap.size w w' := by
  have HB0 := Lib.hid (fun o => (Below.refl _ w).alloc (Nat.le_refl _) o)
  by_cases hg : (decide (2100 < a.size) || decide (2100 < b.size)) = true
  · have HG := Lib.hid (great2_two a b true hg w)
    clear hg hv
    go_enter Tryz.func4, Tryz.ntmps4
    go_wp2_with (go_at_call 23; refine (HG.out _).mono ?_; rintro e w1 ⟨rfl, rfl⟩)
    go_ret
    exact ⟨rfl, HB0.out _⟩
  · have HG := Lib.hid (great2_two a b false (by simpa using hg) w)
    have hn : a.size ≤ 1048576 := by simp at hg; omega
    have hd : b.size ≤ 1048576 := by simp at hg; omega
    have C1 := Lib.hid (radd_any a b hn hd)
    have E1 := Lib.hid (refradd_any a b hn hd)
    have C2 := Lib.hid (rsub_any a b hn hd)
    have E2 := Lib.hid (refrsub_any a b hn hd)
    have C3 := Lib.hid (rcheck_any a hn)
    have E3 := Lib.hid (refRCheck_any a hn)
    have C4 := Lib.hid (rmul_any a b hn hd)
    have E4 := Lib.hid (refrmul_any a b hn hd)
    have C5 := Lib.hid (rdiv_any a b hn hd)
    have E5 := Lib.hid (refrdiv_any a b hn hd)
    have C6 := Lib.hid (rcompare_any a b hn hd)
    have E6 := Lib.hid (refrcompare_any a b hn hd)
    generalize twT addC (· + ·) a.data.toList b.data.toList = t1 at C1 E1
    generalize twC addC a.data.toList b.data.toList = c1 at C1 E1
    generalize twT subC (· - ·) a.data.toList b.data.toList = t2 at C2 E2
    generalize twC subC a.data.toList b.data.toList = c2 at C2 E2
    generalize chkR a.data.toList = c3 at C3 E3
    generalize twT mulC (· * ·) a.data.toList b.data.toList = t4 at C4 E4
    generalize twC mulC a.data.toList b.data.toList = c4 at C4 E4
    generalize twT divC (· / ·) a.data.toList b.data.toList = t5 at C5 E5
    generalize twC divC a.data.toList b.data.toList = c5 at C5 E5
    generalize twK a.data.toList b.data.toList = t6 at C6 E6
    generalize twC comC a.data.toList b.data.toList = c6 at C6 E6
    have HV := Lib.hid hv
    clear hg hv hn hd
    go_enter Tryz.func4, Tryz.ntmps4
    go_wp2_with (first
        | (go_at_call 23; refine (HG.out _).mono ?_; rintro e w2 ⟨rfl, rfl⟩; have D0 := Lib.hid (HB0.out (.cells #[.string a, .string b] 22)))
        | (go_at_call 14; (with_reducible refine (C1.out _ (HV.out.below D0.out)).mono ?_); rintro e u1 ⟨rfl, b⟩; have D1 := Lib.hid (bt D0.out b); clear b)
        | (go_at_call 24; (with_reducible refine (E1.out _).mono ?_); rintro e u2 ⟨rfl, b⟩; have D2 := Lib.hid (bt D1.out b); clear b)
        | (go_at_call 25; (with_reducible refine (C2.out _ (HV.out.below D2.out)).mono ?_); rintro e u3 ⟨rfl, b⟩; have D3 := Lib.hid (bt D2.out b); clear b)
        | (go_at_call 26; (with_reducible refine (E2.out _).mono ?_); rintro e u4 ⟨rfl, b⟩; have D4 := Lib.hid (bt D3.out b); clear b)
        | (go_at_call 11; (with_reducible refine (C3.out _ (HV.out.below D4.out)).mono ?_); rintro e u5 ⟨rfl, b⟩; have D5 := Lib.hid (bt D4.out b); clear b)
        | (go_at_call 27; (with_reducible refine (E3.out _).mono ?_); rintro e u6 ⟨rfl, b⟩; have D6 := Lib.hid (bt D5.out b); clear b)
        | (go_at_call 13; (with_reducible refine (C4.out _ (HV.out.below D6.out)).mono ?_); rintro e u7 ⟨rfl, b⟩; have D7 := Lib.hid (bt D6.out b); clear b)
        | (go_at_call 28; (with_reducible refine (E4.out _).mono ?_); rintro e u8 ⟨rfl, b⟩; have D8 := Lib.hid (bt D7.out b); clear b)
        | (go_at_call 16; (with_reducible refine (C5.out _ (HV.out.below D8.out)).mono ?_); rintro e u9 ⟨rfl, b⟩; have D9 := Lib.hid (bt D8.out b); clear b)
        | (go_at_call 29; (with_reducible refine (E5.out _).mono ?_); rintro e u10 ⟨rfl, b⟩; have D10 := Lib.hid (bt D9.out b); clear b)
        | (go_at_call 15; (with_reducible refine (C6.out _ (HV.out.below D10.out)).mono ?_); rintro e u11 ⟨rfl, b⟩; have D11 := Lib.hid (bt D10.out b); clear b)
        | (go_at_call 30; (with_reducible refine (E6.out _).mono ?_); rintro e u12 ⟨rfl, b⟩; have D12 := Lib.hid (bt D11.out b); clear b))
    go_ret
    exact ⟨rfl, D12.out⟩
end Go.Proofs.YtgjhgkglfflmjaaGreatDoor

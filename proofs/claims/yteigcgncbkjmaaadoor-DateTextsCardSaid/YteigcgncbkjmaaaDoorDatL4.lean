/- The walk of the law DateTexts. -/
import Derived.Test.YteigcgncbkjmaaaDoorDatR
import Derived.Test.YteigcgncbkjmaaaDoorDatI
namespace Go.Proofs.YteigcgncbkjmaaaDoor
open Go Go.RowKit

set_option maxRecDepth 100000 in
set_option maxHeartbeats 1600000 in
theorem texts_core (n : Int) (s T : ByteArray) (x v g : Int)
    (ha : ∀ w : World, VarS w → Calls Tryd.prog 26 #[.int .i64 n] w fun r w' => r = .returned (.tuple #[.string T, .int .i64 x]) ∧ Below w.heap.size w w')
    (hb : ∀ w : World, Calls Tryd.prog 27 #[.int .i64 n] w fun r w' => r = .returned (.tuple #[.string T, .int .i64 x]) ∧ Below w.heap.size w w')
    (hc : ∀ w : World, VarS w → Calls Tryd.prog 17 #[.string s] w fun r w' => r = .returned (.tuple #[.int .i64 v, .int .i64 g]) ∧ Below w.heap.size w w')
    (hd : ∀ w : World, Calls Tryd.prog 28 #[.string s] w fun r w' => r = .returned (.tuple #[.int .i64 v, .int .i64 g]) ∧ Below w.heap.size w w')
    (hx : -9223372036854775808 ≤ x ∧ x ≤ 9223372036854775807) (hg : -9223372036854775808 ≤ g ∧ g ≤ 9223372036854775807)
    (w : World) (hv : VarS w) :
    Calls Tryd.prog 6 #[.int .i64 n, .string s] w fun e w' => e = .returned (.bool true) ∧ Below w.heap.size w w' := by
  have HV := Lib.hid hv
  have HA := Lib.hid ha
  have HB := Lib.hid hb
  have HC := Lib.hid hc
  have HD := Lib.hid hd
  obtain ⟨x0, x1⟩ := hx
  obtain ⟨g0, g1⟩ := hg
  clear ha hb hc hd hv
  go_enter Tryd.func6, Tryd.ntmps6
  go_wp2_with (first
    | (go_at_call 26; ((with_reducible refine (HA.out _ HV.out).mono ?_); rintro e w1 ⟨rfl, b⟩; have B1 := Lib.hid b; clear b))
    | (go_at_call 27; ((with_reducible refine (HB.out _).mono ?_); rintro e w2 ⟨rfl, b⟩; have B2 := Lib.hid (bt B1.out b); clear b))
    | (go_at_call 17; ((with_reducible refine (HC.out _ (HV.out.below B2.out)).mono ?_); rintro e w3 ⟨rfl, b⟩; have B3 := Lib.hid (bt B2.out b); clear b))
    | (go_at_call 28; ((with_reducible refine (HD.out _).mono ?_); rintro e w4 ⟨rfl, b⟩; have B4 := Lib.hid (bt B3.out b); clear b)))
  go_ret
  exact ⟨rfl, B4.out⟩
theorem paE_bd (l : List UInt8) : -9223372036854775808 ≤ paE l ∧ paE l ≤ 9223372036854775807 := by
  unfold paE; split
  · unfold ofE; split <;> omega
  · omega
theorem texts_law (n : Int) (s : ByteArray) (w : World) (hv : VarS w) :
    Calls Tryd.prog 6 #[.int .i64 n, .string s] w fun e w' => e = .returned (.bool true) ∧ Below w.heap.size w w' := by
  have hc := fun (w : World) (hv : VarS w) => parse_at s _ _ rfl rfl w hv.d
  have hd := fun w : World => refParse_any s w
  by_cases h : n < 0 ∨ 99999 < n
  · exact texts_core n s ⟨#[]⟩ 2 _ _ (fun w _ => (text2_out n h w).mono fun e w' ⟨a, b⟩ => ⟨a, by rw [← b]; exact Below.refl _ _⟩)
      (fun w => (refText_out n h w).mono fun e w' ⟨a, b⟩ => ⟨a, by rw [← b]; exact Below.refl _ _⟩) hc hd (by decide) (paE_bd _) w hv
  · obtain ⟨y, m, d, hi⟩ := isDate_of n (by omega)
    exact texts_core n s ⟨(txt y m d).toArray⟩ 0 _ _ (fun w hv => text2_in y m d n hi (by omega) w hv) (fun w => refText_in y m d n hi (by omega) w) hc hd (by decide) (paE_bd _) w hv
end Go.Proofs.YteigcgncbkjmaaaDoor

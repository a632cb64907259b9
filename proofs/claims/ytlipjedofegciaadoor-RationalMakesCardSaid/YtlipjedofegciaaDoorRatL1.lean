/- The walk of the law RationalMakes. -/
import Derived.Test.YtlipjedofegciaaDoorRatK
namespace Go.Proofs.YtlipjedofegciaaDoor
open Go Go.RowKit

set_option maxRecDepth 100000 in
set_option maxHeartbeats 3200000 in
theorem makes_law (n d a : ByteArray) (x y : Int) (x0 : -9223372036854775808 ≤ x) (x1 : x ≤ 9223372036854775807) (y0 : -9223372036854775808 ≤ y) (y1 : y ≤ 9223372036854775807) (w : World) (hv : VarR w) :
    Calls Tryd.prog 11 #[.string n, .string d, .string a, .int .i64 x, .int .i64 y] w fun e w' => e = .returned (.bool true) ∧ Below w.heap.size w w' := by
  have HB0 := Lib.hid (fun o => (Below.refl _ w).alloc (Nat.le_refl _) o)
  by_cases hg : (decide (1100 < n.size) || decide (1100 < d.size)) = true
  · have HG := Lib.hid (great_two n d true hg w)
    clear hg hv x0 x1 y0 y1
    go_enter Tryd.func11, Tryd.ntmps11
    go_wp2_with (go_at_call 23; refine (HG.out _).mono ?_; rintro e w1 ⟨rfl, rfl⟩)
    go_ret
    exact ⟨rfl, HB0.out _⟩
  · have HG := Lib.hid (great_two n d false (by simpa using hg) w)
    have hn : n.size ≤ 1100 := by simp at hg; omega
    have hd : d.size ≤ 1100 := by simp at hg; omega
    have HB1 : Hid (∀ o1 o2, Below w.heap.size w ((w.alloc o1).alloc o2)) := fun o1 o2 => ((Below.refl _ w).alloc (Nat.le_refl _) _).alloc (by simp) _
    by_cases hg2 : 2100 < a.size
    · have HH := Lib.hid (great2_one a true (decide_eq_true hg2))
      clear hg hg2 hv x0 x1 y0 y1 hn hd
      go_enter Tryd.func11, Tryd.ntmps11
      go_wp2_with (first
        | (go_at_call 23; refine (HG.out _).mono ?_; rintro e w1 ⟨rfl, rfl⟩)
        | (go_at_call 35; refine (HH.out _ _ (by rw [World.cell?_alloc_at _ _ _ _ (by simp)]; rfl)).mono ?_; rintro e w2 ⟨rfl, rfl⟩))
      go_ret
      exact ⟨rfl, HB1.out _ _⟩
    · have HH := Lib.hid (great2_one a false (decide_eq_false hg2))
      have hn1 : n.size ≤ maxLen := by unfold maxLen; omega
      have hd1 : d.size ≤ maxLen := by unfold maxLen; omega
      have C1 := Lib.hid (make_any n d hn1 hd1)
      have R1 := Lib.hid (refMake_any n d (by omega) (by omega))
      have C2 := Lib.hid (ratio_any x y x0 x1 y0 y1)
      have O1 := Lib.hid (refOf_any x x0 x1)
      have O2 := Lib.hid (refOf_any y y0 y1)
      have R2 := Lib.hid (refMake_any ⟨(Lib.itoa x).toArray⟩ ⟨(Lib.itoa y).toArray⟩ (by have := itoa_size x x0 x1; show (Lib.itoa x).length ≤ _; have h2 := len_of_chk (chk_of_abs (small_abs x x0 x1)); omega) (by show (Lib.itoa y).length ≤ _; have h2 := len_of_chk (chk_of_abs (small_abs y y0 y1)); omega))
      rw [show (⟨(Lib.itoa x).toArray⟩ : ByteArray).data.toList = Lib.itoa x from rfl, show (⟨(Lib.itoa y).toArray⟩ : ByteArray).data.toList = Lib.itoa y from rfl] at R2
      have C3 := Lib.hid (parts_any a (by omega))
      obtain ⟨z1, z2, R3⟩ : ∃ z1 z2, ∀ W, Calls Tryd.prog 40 #[.string a, .string ⟨#[48]⟩] W (FourR ⟨(parS a.data.toList).1.toArray⟩ ⟨(parS a.data.toList).2.toArray⟩ z1 z2 (chkR a.data.toList) W) := by
        by_cases h0 : chkR a.data.toList = 0
        · exact ⟨_, _, fun W => (four_zero_ok a (by omega) h0 W)⟩
        · exact ⟨_, _, fun W => (four_zero_err a (by omega) h0 W)⟩
      have R3 := Lib.hid R3
      have C4 := Lib.hid (rof_any x x0 x1)
      generalize mkS n.data.toList d.data.toList = m1 at C1 R1
      generalize mkS (Lib.itoa x) (Lib.itoa y) = m2 at C2 R2
      generalize (⟨(parS a.data.toList).1.toArray⟩ : ByteArray) = p1 at C3 R3
      generalize (⟨(parS a.data.toList).2.toArray⟩ : ByteArray) = p2 at C3 R3
      generalize chkR a.data.toList = cc at C3 R3
      have HV := Lib.hid hv
      clear hg hg2 hv x0 x1 y0 y1 hn hd hn1 hd1
      go_enter Tryd.func11, Tryd.ntmps11
      go_wp2_with (first
        | (go_at_call 23; refine (HG.out _).mono ?_; rintro e w1 ⟨rfl, rfl⟩)
        | (go_at_call 35; refine (HH.out _ _ (by rw [World.cell?_alloc_at _ _ _ _ (by simp)]; rfl)).mono ?_; rintro e w2 ⟨rfl, rfl⟩; have D2 := Lib.hid (HB1.out (.cells #[.string n, .string d] 22) (.cells #[.string a] 49)))
        | (go_at_call 36; refine (C1.out _ (HV.out.below D2.out).t).mono ?_; rintro e w3 ⟨rfl, b⟩; have D3 := Lib.hid (bt D2.out b); clear b)
        | (go_at_call 37; (with_reducible refine (R1.out _).mono ?_); rintro e w4 ⟨rfl, b⟩; have D4 := Lib.hid (bt D3.out b); clear b)
        | (go_at_call 38; refine (C2.out _ (HV.out.below D4.out).t).mono ?_; rintro e w5 ⟨rfl, b⟩; have D5 := Lib.hid (bt D4.out b); clear b)
        | (go_at_call 32; (have _t := D5; (with_reducible refine (O1.out _).mono ?_)); rintro e w6 ⟨rfl, b⟩; have D6 := Lib.hid (bt D5.out b); clear b D5)
        | (go_at_call 32; (with_reducible refine (O2.out _).mono ?_); rintro e w7 ⟨rfl, b⟩; have D7 := Lib.hid (bt D6.out b); clear b)
        | (go_at_call 37; (with_reducible refine (R2.out _).mono ?_); rintro e w8 ⟨rfl, b⟩; have D8 := Lib.hid (bt D7.out b); clear b)
        | (go_at_call 39; refine (C3.out _ (HV.out.below D8.out)).mono ?_; rintro e w9 ⟨rfl, b⟩; have D9 := Lib.hid (bt D8.out b); clear b)
        | (go_at_call 40; refine (R3.out _).mono ?_; rintro e wA ⟨rfl, b⟩; have DA := Lib.hid (bt D9.out b); clear b)
        | (go_at_call 41; refine (C4.out _ (HV.out.below DA.out).t).mono ?_; rintro e wB ⟨rfl, b⟩; have DB := Lib.hid (bt DA.out b); clear b)
        | (go_at_call 32; (with_reducible refine (O1.out _).mono ?_); rintro e wC ⟨rfl, b⟩; have DC := Lib.hid (bt DB.out b); clear b))
      go_ret
      exact ⟨rfl, DC.out⟩
end Go.Proofs.YtlipjedofegciaaDoor

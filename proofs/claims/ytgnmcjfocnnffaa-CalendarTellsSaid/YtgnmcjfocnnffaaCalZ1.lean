/- Layer 4: the reference's Join: its weekend. -/
import Derived.Test.YtgnmcjfocnnffaaCalZ
namespace Go.Proofs.Ytgnmcjfocnnffaa
open Go Go.RowKit

set_option maxRecDepth 100000 in
set_option maxHeartbeats 1600000 in
theorem rjoin_none (we1 : Int) (A1 : Option Addr) (c1 : Nat) (hs1 : List Int) (we2 : Int) (A2 : Option Addr) (c2 : Nat) (hs2 : List Int) (w : World) (h1 : CalIn w we1 A1 c1 hs1) (h2 : CalIn w we2 A2 c2 hs2) (hv1 : we1 ≤ 126) (hv2 : we2 ≤ 126)
    (hc1 : ∀ w', Below w.heap.size w w' → ValS we1 A1 c1 hs1 true w') (hc2 : ∀ w', Below w.heap.size w w' → ValS we2 A2 c2 hs2 true w') (hW : orW we1 we2 = 127) : RJoS we1 A1 c1 hs1 we2 A2 c2 hs2 0 [] 6 w := by
  have hJ := joB_new we1 A1 c1 hs1 we2 A2 c2 hs2 w h1.rd h2.rd
  obtain ⟨W3, hW3⟩ : ∃ W3, ((w.alloc (.cells #[.int .u8 we1, .slice A1 hs1.length c1] 24)).alloc (.cells #[.int .u8 we2, .slice A2 hs2.length c2] 24)).alloc (.cells #[.int .u8 0, .slice none 0 0] 24) = W3 := ⟨_, rfl⟩
  rw [hW3] at hJ
  have J3 := Lib.hid hJ
  have HC1 : Hid (∀ w', Below w.heap.size w w' → Calls _ _ _ _ _) := hc1
  have HC2 : Hid (∀ w', Below w.heap.size w w' → Calls _ _ _ _ _) := hc2
  have a0 := hJ.C1.c0
  have a1 := hJ.C1.c1
  have b0 := hJ.C2.c0
  have b1 := hJ.C2.c1
  have w10 := h1.w0
  have w20 := h2.w0
  have HW := Lib.hid hW
  have HST := Lib.hid (fun i => orW_step we1 we2 i w10 w20)
  have HBD := Lib.hid (orW_bd we1 we2 w10 hv1 w20 hv2)
  have HR1 := Lib.hid fun (m : Nat) (hm : m ≤ 6) b hb w => rest_any we1 m b w10 (by omega) (by omega) (by omega) hb w
  have HR2 := Lib.hid fun (m : Nat) (hm : m ≤ 6) b hb w => rest_any we2 m b w20 (by omega) (by omega) (by omega) hb w
  clear hJ h1 h2 hc1 hc2 hW
  show Calls _ _ _ _ _
  go_enter Try.func8, Try.ntmps8
  go_wp2_with (first
    | (go_at_call 11; ((with_reducible refine (HC1.out _ J3.out.B).mono ?_); rintro x w4 ⟨rfl, hb⟩; have J4 := Lib.hid (J3.out.below hb); have a0 := J4.out.C1.c0; have a1 := J4.out.C1.c1; have b0 := J4.out.C2.c0; have b1 := J4.out.C2.c1; clear hb))
    | (go_at_call 11; ((with_reducible refine (HC2.out _ J4.out.B).mono ?_); rintro x w5 ⟨rfl, hb⟩; have J5 := Lib.hid (J4.out.below hb); have R5 := Lib.hid (RjO.new J5.out); clear hb)))
  clear a0 a1 b0 b1 hW3
  go_loopw [7] (fun i wr => ∃ (j : Nat) (X : Int), j ≤ 7 ∧ i = .int .i64 ((j : Int) - 1) ∧ Hid (X = orW we1 we2 / 2 ^ j) ∧ Hid (RjO we1 A1 c1 hs1 we2 A2 c2 hs2 w wr w5.heap.size X (.slice none 0 0))) (fun i _ => (intOf i + 1).toNat)
  case atStart => exact ⟨7, 0, by omega, rfl, by show (0 : Int) = _; have h := HBD.out; exact (Int.ediv_eq_zero_of_lt h.1 (by omega)).symm, R5⟩
  case round =>
    clear R5
    obtain ⟨j, X, hj, rfl, HX, HR⟩ := hrel
    by_cases hj0 : j = 0
    · subst hj0
      obtain rfl : X = 127 := by rw [HX.out, Int.pow_zero, Int.ediv_one]; exact HW.out
      have ko0 := HR.out.ko0
      have q0 := HR.out.q0
      have q1 := HR.out.q1
      have q2 := HR.out.q2
      have q3 := HR.out.q3
      go_wp2
      refine bodyPost_ret (results_row_tmp rfl _ _ (w.heap.size + 1 + 1) 24 _ (0, 0) _ _ rfl rfl (heap_set2 HR.out.r _ _) Try.underlying24 (by kernel_rfl) (by kernel_rfl)) rfl ?_
      exact ⟨_, rfl, World.ownsRow_nil _ _ _ _, bel_set2 HR.out.B _ (by omega) _ _⟩
    · obtain ⟨m, rfl⟩ : ∃ m, j = m + 1 := ⟨j - 1, by omega⟩
      clear hj0
      have hst := HST.out m
      rw [← HX.out] at hst
      have hle : orW we1 we2 / 2 ^ m ≤ 127 := Int.le_trans (Int.ediv_le_self _ HBD.out.1) HBD.out.2
      have h0 : 0 ≤ X := by rw [HX.out]; exact Int.ediv_nonneg HBD.out.1 (Int.le_of_lt (Int.pow_pos (by decide)))
      obtain ⟨b1, hb1⟩ : ∃ b, decide (we1 / 2 ^ m % 2 = 1) = b := ⟨_, rfl⟩
      obtain ⟨b2, hb2⟩ : ∃ b, decide (we2 / 2 ^ m % 2 = 1) = b := ⟨_, rfl⟩
      rw [hb1, hb2] at hst
      have HC1 := Lib.hid (HR1.out m (by omega) b1 (by simpa using hb1))
      have HC2 := Lib.hid (HR2.out m (by omega) b2 (by simpa using hb2))
      have HT := Lib.hid hst
      have hX : X ≤ 63 := by
        have : (0 : Int) ≤ if (b1 || b2) = true then 1 else 0 := by split <;> decide
        omega
      rw [show ((m + 1 : Nat) : Int) - 1 = (m : Int) by omega]
      have S1 := Lib.hid (HR.out.set0 (2 * X))
      have S2 := Lib.hid (S1.out.set0 (2 * X + 1))
      have ko0 := HR.out.ko0
      have fo0 := HR.out.fo0
      have k1 := S1.out.ka0
      have k2 := S1.out.kb0
      have k3 := S1.out.ko0
      have k4 := S1.out.fo0
      clear hst hle hb1 hb2 HX
      cases b1 <;> cases b2
      all_goals
        go_wp2_with (first
          | (go_at_call 17; ((with_reducible refine (HC1.out _).mono ?_); rintro x u ⟨rfl, rfl⟩))
          | (go_at_call 17; ((with_reducible refine (HC2.out _).mono ?_); rintro x u ⟨rfl, rfl⟩)))
        go_roundw
        case rel => first | exact ⟨m, _, by omega, by go_num, HT.out.symm, S2⟩ | exact ⟨m, _, by omega, by go_num, (by show _ = _; have := HT.out; simpa using this.symm), S1⟩
        case measure => simp [intOf]
end Go.Proofs.Ytgnmcjfocnnffaa

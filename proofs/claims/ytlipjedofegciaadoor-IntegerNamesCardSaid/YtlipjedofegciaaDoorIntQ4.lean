/- The walks of the reference of layer 1: DivMod of a negative integer with a rest; the whole of DivMod. -/
import Derived.Test.YtlipjedofegciaaDoorIntQ3
namespace Go.Proofs.YtlipjedofegciaaDoor
open Go Go.RowKit

section
variable (s t : ByteArray) (k : Bool) (X Y : Nat) (hg : ngB s.data.toList = true) (hk : ngB t.data.toList = k) (hX : vl 10 (dgs (bod s.data.toList)) = X) (hY : vl 10 (dgs (bod t.data.toList)) = Y) (h1 : chk s.data.toList = 0) (h2 : chk t.data.toList = 0) (w : World)
include hg hk hX hY h1 h2

set_option maxRecDepth 100000 in
set_option maxHeartbeats 1600000 in
theorem refDivMod_rest (h0 : 0 < Y) (hr0 : ¬ X % Y = 0) (z : Int) (hz : sgn (!(true == k)) (X / Y + 1) = z) (zr : Int) (hzr : ((Y - X % Y : Nat) : Int) = zr) : Calls Tryd.prog 29 #[.string s, .string t] w fun e w' => e = .returned (.tuple #[.string ⟨(Lib.itoa z).toArray⟩, .string ⟨(Lib.itoa zr).toArray⟩, .int .i64 0]) ∧ Below w.heap.size w w' := by
  have hs := len_of_chk h1
  have ht := len_of_chk h2
  rw [← Lib.size_eq] at hs ht
  have HB := Lib.hid (both_any s t (by omega) (by omega) w)
  rw [show bothE s.data.toList t.data.toList = 0 by unfold bothE; rw [if_pos h1, h2]] at HB
  have HD := Lib.hid (digits_canF s h1 X hX true hg)
  have HE := Lib.hid (digits_canF t h2 Y hY k hk)
  have HK : Hid (Y < 10 ^ thou) := by rw [← hY]; exact pow_1000_lt h2
  obtain ⟨Q, hQ⟩ : ∃ Q, X / Y = Q := ⟨_, rfl⟩
  obtain ⟨R, hR⟩ : ∃ R, X % Y = R := ⟨_, rfl⟩
  have hRY : R ≤ Y := by rw [← hR]; exact Nat.le_of_lt (Nat.mod_lt _ h0)
  rw [hQ] at hz
  rw [hR] at hr0 hzr
  have HQ := Lib.hid hQ
  have HR := Lib.hid hR
  have HZ := Lib.hid hz
  have HZR := Lib.hid hzr
  have HY0 := Lib.hid h0
  have HRY := Lib.hid hRY
  have HZY : Hid (decide (Y = 0) = false) := decide_eq_false (by omega)
  have HZ2 : Hid (decide (R = 0) = false) := decide_eq_false hr0
  have hth : thou ≤ 1000 := Nat.le_refl _
  clear hs ht hg hk hX hY h1 h2 hQ hR h0 hz hzr hr0 hRY
  cases k
  all_goals
    go_enter Tryd.func29, Tryd.ntmps29
    go_wp2_with (first
      | (go_at_call 58; refine HB.out.mono ?_; rintro e w1 ⟨rfl, hb1⟩)
      | (go_at_call 59; (with_reducible refine (HD.out _).mono ?_); rintro e w2 ⟨A, c, xs, rfl, hF, hd, hl, hn, hb2⟩; have HD1 := Lib.hid hd; have HN1 := Lib.hid hn; clear hd hn)
      | (go_at_call 59; (with_reducible refine (HE.out _).mono ?_); rintro e w3 ⟨B, d, ys, rfl, hF', hd', hl', hn', hb3⟩; have HD2 := Lib.hid hd'; have HN2 := Lib.hid hn'; clear hd' hn')
      | (go_at_call 66; (with_reducible refine (zero_of B d ys false _ hF'.sl HD2.out (by omega) (by rw [HN2.out]; exact HZY.out)).mono ?_); rintro e w4 ⟨rfl, rfl⟩)
      | (go_at_call 67; refine (refDivide_of A B c d xs ys X Y Q _ _ (hF.below hb3) hF' HD1.out HD2.out (by omega) (by omega) HN1.out HN2.out HY0.out HQ.out HR.out thou HK.out).mono ?_; rintro e w5 ⟨A1, c1, qs, A2, c2, rs, rfl, k1, k2, k3, k4, k5, k6, k7, k8, k9⟩; have K3 := Lib.hid k3; have K4 := Lib.hid k4; have K7 := Lib.hid k7; have K8 := Lib.hid k8; clear k3 k4 k7 k8)
      | (go_at_call 66; (with_reducible refine (zero_of A2 c2 rs false _ k2.sl K4.out (by omega) (by rw [K8.out]; exact HZ2.out)).mono ?_); rintro e w6 ⟨rfl, rfl⟩)
      | (go_at_call 61
         have hS1 : SlA encI (w5.alloc (.cells #[.int .i64 1] 3)) (some ⟨w5.heap.size, 0, none⟩) [1] := SlA.of_cells (heap_alloc_new w5 _) rfl
         have hb5 : Below w5.heap.size w5 (w5.alloc (.cells #[.int .i64 1] 3)) := (Below.refl _ _).alloc (Nat.le_refl _) _
         refine (plus_any A1 (some ⟨w5.heap.size, 0, none⟩) c1 1 qs [1] _ (k1.below hb5) hS1 K3.out (by simp) (by omega) (by simp)).mono ?_
         rintro e w6 ⟨v6, os6, rfl, hown6, hb6, hl6, hd6, hv6⟩
         obtain ⟨A6, c6, rfl, hF6⟩ := SlF.of_own (base' := 0) hown6 (Nat.zero_le _)
         rw [show [1].length = 1 from rfl] at hl6
         have hl6' : os6.length ≤ 1002 := by omega
         have V6 : Hid (vl 10 os6 = Q + 1) := by show _ = _; rw [hv6, K7.out]; simp [vl]
         have D6 := Lib.hid hd6
         have hb56 := bt hb5 hb6
         clear hown6 hl6 hd6 hv6 hb5 hb6 hS1)
      | (go_at_call 63
         refine (minus_any B A2 d c2 ys rs _ ((hF'.below k9).below hb56).sl (k2.below hb56).sl HD2.out K4.out (by omega) (by rw [K8.out, HN2.out]; exact HRY.out)).mono ?_
         rintro e w7 ⟨v7, os7, rfl, hown7, hb7, hl7, hd7, hv7⟩
         obtain ⟨A7, c7, rfl, hF7⟩ := SlF.of_own (base' := 0) hown7 (Nat.zero_le _)
         have hl7' : os7.length ≤ 1000 := by omega
         have V7 : Hid (vl 10 os7 = Y - R) := by show _ = _; rw [hv7, K8.out, HN2.out]
         have D7 := Lib.hid hd7
         clear hown7 hl7 hd7 hv7)
      | (go_at_call 68; (with_reducible refine (text_is _ A6 c6 os6 _ (hF6.below hb7).sl D6.out (by omega) z (by rw [V6.out]; with_unfolding_all exact HZ.out)).mono ?_); rintro e w8 ⟨rfl, hb8⟩)
      | (go_at_call 68; (with_reducible refine (text_is _ A7 c7 os7 _ (hF7.below hb8).sl D7.out (by omega) zr (by rw [V7.out]; with_unfolding_all exact HZR.out)).mono ?_); rintro e w9 ⟨rfl, hb9⟩))
    go_ret3
    exact ⟨rfl, bt (bt (bt (bt (bt (bt (bt hb1 hb2) hb3) k9) hb56) hb7) hb8) hb9⟩
end

set_option maxRecDepth 100000 in
set_option maxHeartbeats 800000 in
theorem refDivMod_err (s t : ByteArray) (hs : s.size ≤ 1099511627776) (ht : t.size ≤ 1099511627776) (h : ¬ bothE s.data.toList t.data.toList = 0) (w : World) :
    Calls Tryd.prog 29 #[.string s, .string t] w fun e w' => e = .returned (.tuple #[.string ⟨#[]⟩, .string ⟨#[]⟩, .int .i64 (bothE s.data.toList t.data.toList)]) ∧ Below w.heap.size w w' := by
  have HB := Lib.hid (both_any s t hs ht w)
  obtain ⟨x, hx⟩ : ∃ x, bothE s.data.toList t.data.toList = x := ⟨_, rfl⟩
  rw [hx] at HB h ⊢
  have h1 : (x == 0) = false := by rw [beq_eq_false_iff_ne]; exact h
  have h2 : (x != 0) = true := by rw [bne_iff_ne]; exact h
  clear h hx
  go_enter Tryd.func29, Tryd.ntmps29
  go_wp2_with (go_at_call 58; refine HB.out.mono ?_; rintro e w1 ⟨rfl, hb1⟩)
  go_ret3
  exact ⟨rfl, hb1⟩

theorem refDivMod_any (s t : ByteArray) (hs : s.size ≤ 1099511627776) (ht : t.size ≤ 1099511627776) (w : World) :
    Calls Tryd.prog 29 #[.string s, .string t] w fun e w' => e = .returned (.tuple #[.string ⟨(dmS s.data.toList t.data.toList).1.toArray⟩, .string ⟨(dmS s.data.toList t.data.toList).2.1.toArray⟩, .int .i64 (dmS s.data.toList t.data.toList).2.2]) ∧ Below w.heap.size w w' := by
  by_cases h : bothE s.data.toList t.data.toList = 0
  · obtain ⟨h1, h2⟩ := bothE_zero h
    have ex := num_sgn s.data.toList
    have ey := num_sgn t.data.toList
    by_cases h0 : vl 10 (dgs (bod t.data.toList)) = 0
    · rw [dmS_zero h (by rw [ey, h0]; exact sgn_zero _)]
      exact refDivMod_zero s t _ _ _ _ rfl rfl rfl rfl h1 h2 w h0
    · rw [dmS_ok h (by rw [ey]; exact fun e => h0 (sgn_eq_zero e)), ex, ey]
      by_cases hg : ngB s.data.toList = true
      · rw [hg]
        by_cases hm : vl 10 (dgs (bod s.data.toList)) % vl 10 (dgs (bod t.data.toList)) = 0
        · obtain ⟨e1, e2⟩ := dm_neg_zero (ngB t.data.toList) _ _ (by omega) hm
          have := refDivMod_plain s t true _ _ _ hg rfl rfl rfl h1 h2 w (by omega) (.inr hm) _ e1.symm
          rw [hm] at this
          rw [e2]; exact this
        · obtain ⟨e1, e2⟩ := dm_neg (ngB t.data.toList) _ _ (by omega) hm
          exact refDivMod_rest s t _ _ _ hg rfl rfl rfl h1 h2 w (by omega) hm _ e1.symm _ e2.symm
      · have hg : ngB s.data.toList = false := by simpa using hg
        rw [hg]
        obtain ⟨e1, e2⟩ := dm_pos (ngB t.data.toList) (vl 10 (dgs (bod s.data.toList))) (vl 10 (dgs (bod t.data.toList))) (by omega)
        rw [e2]
        exact refDivMod_plain s t false _ _ _ hg rfl rfl rfl h1 h2 w (by omega) (.inl rfl) _ e1.symm
  · rw [dmS_err h]
    exact refDivMod_err s t hs ht h w
end Go.Proofs.YtlipjedofegciaaDoor

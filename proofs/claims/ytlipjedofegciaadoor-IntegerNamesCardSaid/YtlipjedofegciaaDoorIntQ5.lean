/- The walks of the reference of layer 1: Gcd. -/
import Derived.Test.YtlipjedofegciaaDoorIntQ4
namespace Go.Proofs.YtlipjedofegciaaDoor
open Go Go.RowKit

/-- The digits that a slice value reads as. -/
def rdN (w : World) : Value → List Nat
  | .slice (some a) n _ => (List.range n).map fun j => cellN w ⟨a.block, a.off + j, none⟩
  | _ => []
theorem rdN_of {w : World} {A : Option Addr} {xs : List Nat} {c : Nat} (h : SlA encI w A xs) : rdN w (.slice A xs.length c) = xs := by
  cases A with
  | none =>
    cases xs with
    | nil => rfl
    | cons x xs => obtain ⟨b, o, h1, _⟩ := h 0 x rfl; cases h1
  | some a =>
    refine List.ext_getElem (by simp [rdN]) fun j h1 h2 => ?_
    obtain ⟨b, o, e, _, hc⟩ := h.get h2
    injection e with e
    subst e
    simp only [rdN, List.getElem_map, List.getElem_range]
    exact cellN_of hc
def GcRel (G x y : Nat) : Prop := Nat.gcd x y = G ∧ y < 10 ^ thou
theorem GcRel.step {G x y : Nat} (h : GcRel G x y) (hy : 0 < y) : GcRel G y (x % y) := by
  refine ⟨?_, Nat.lt_trans (Nat.mod_lt _ hy) h.2⟩
  rw [← h.1, Nat.gcd_comm y, ← Nat.gcd_rec, Nat.gcd_comm]

set_option maxRecDepth 100000 in
set_option maxHeartbeats 1600000 in
theorem refGcd_ok (s t : ByteArray) (h1 : chk s.data.toList = 0) (h2 : chk t.data.toList = 0) (G : Nat) (hG : Nat.gcd (vl 10 (dgs (bod s.data.toList))) (vl 10 (dgs (bod t.data.toList))) = G) (w : World) :
    Calls Tryd.prog 30 #[.string s, .string t] w fun e w' => e = .returned (.tuple #[.string ⟨(Lib.itoa (G : Int)).toArray⟩, .int .i64 0]) ∧ Below w.heap.size w w' := by
  have hs := len_of_chk h1
  have ht := len_of_chk h2
  rw [← Lib.size_eq] at hs ht
  have HB := Lib.hid (both_any s t (by omega) (by omega) w)
  rw [show bothE s.data.toList t.data.toList = 0 by unfold bothE; rw [if_pos h1, h2]] at HB
  have HD := Lib.hid (digits_canF s h1 _ rfl _ rfl)
  have HE := Lib.hid (digits_canF t h2 _ rfl _ rfl)
  have HR : Hid (GcRel G (vl 10 (dgs (bod s.data.toList))) (vl 10 (dgs (bod t.data.toList)))) := ⟨hG, pow_1000_lt h2⟩
  have hth : thou ≤ 1000 := Nat.le_refl _
  generalize vl 10 (dgs (bod s.data.toList)) = X at *
  generalize vl 10 (dgs (bod t.data.toList)) = Y at *
  generalize ngB s.data.toList = g at *
  generalize ngB t.data.toList = k at *
  clear hs ht h1 h2 hG
  go_enter Tryd.func30, Tryd.ntmps30
  go_wp2_with (first
    | (go_at_call 58; refine HB.out.mono ?_; rintro e w1 ⟨rfl, hb1⟩)
    | (go_at_call 59; (with_reducible refine (HD.out _).mono ?_); rintro e w2 ⟨A, c, xs, rfl, hF, hd, hl, hn, hb2⟩; have HD1 := Lib.hid hd; have HN1 := Lib.hid hn; clear hd hn)
    | (go_at_call 59; (with_reducible refine (HE.out _).mono ?_); rintro e w3 ⟨B, d, ys, rfl, hF', hd', hl', hn', hb3⟩; have HD2 := Lib.hid hd'; have HN2 := Lib.hid hn'; clear hd' hn'))
  have HG : Hid (GcRel G (vl 10 xs) (vl 10 ys)) := by rw [HN1.out, HN2.out]; exact HR.out
  clear HD HE HB HR HN1 HN2
  go_loopw [7, 10] (fun x y wr => ∃ (A : Option Addr) (c : Nat) (xs : List Nat) (B : Option Addr) (d : Nat) (ys : List Nat), x = .slice A xs.length c ∧ y = .slice B ys.length d ∧ SlF wr 0 A xs c ∧ SlF wr 0 B ys d ∧ Hid (∀ d ∈ xs, d < 10) ∧ Hid (∀ d ∈ ys, d < 10) ∧
      xs.length ≤ 1001 ∧ ys.length ≤ 1001 ∧ Hid (GcRel G (vl 10 xs) (vl 10 ys)) ∧ Below w.heap.size w wr) (fun _ y wr => vl 10 (rdN wr y))
  case atStart => exact ⟨A, c, xs, B, d, ys, rfl, rfl, hF.below hb3, hF', HD1, HD2, by omega, by omega, HG, bt (bt hb1 hb2) hb3⟩
  case round =>
    clear HG HD1 HD2 hF hF' hl hl' hb1 hb2 hb3
    obtain ⟨A, c, xs, B, d, ys, rfl, rfl, hF, hF', hd, hd', hl, hl', hg, hbel⟩ := hrel
    by_cases h0 : vl 10 ys = 0
    · have hb0 : decide (vl 10 ys = 0) = true := decide_eq_true h0
      have HZ := Lib.hid (zero_of B d ys true wr hF'.sl hd'.out (by omega) hb0)
      have HV : Hid (sgn false (vl 10 xs) = (G : Int)) := by
        have := hg.out.1
        rw [h0, Nat.gcd_zero_right] at this
        rw [this]; exact rfl
      have HT := Lib.hid (text_is false A c xs wr hF.sl hd.out (by omega) _ HV.out)
      clear h0 hb0 hg HV
      go_wp2_with (first
        | (go_at_call 66; refine HZ.out.mono ?_; rintro e w4 ⟨rfl, rfl⟩)
        | (go_at_call 68; refine HT.out.mono ?_; rintro e w5 ⟨rfl, hb5⟩))
      go_ret2
      exact ⟨rfl, hbel.trans (hb5.mono hbel.size)⟩
    · have hb0 : decide (vl 10 ys = 0) = false := decide_eq_false h0
      have HZ := Lib.hid (zero_of B d ys false wr hF'.sl hd'.out (by omega) hb0)
      have HDV := Lib.hid (refDivide_of A B c d xs ys _ _ _ _ wr hF hF' hd.out hd'.out hl hl' rfl rfl (by omega) rfl rfl thou hg.out.2)
      have HG := Lib.hid (hg.out.step (by omega))
      have HM : Hid (vl 10 xs % vl 10 ys < vl 10 ys) := Nat.mod_lt _ (by omega)
      have HY : Hid (vl 10 (rdN wr (.slice B ys.length d)) = vl 10 ys) := by show _ = _; rw [rdN_of hF'.sl]
      clear h0 hb0 hg
      go_wp2_with (first
        | (go_at_call 66; refine HZ.out.mono ?_; rintro e w4 ⟨rfl, rfl⟩)
        | (go_at_call 67; refine HDV.out.mono ?_; rintro e w5 ⟨A1, c1, qs, A2, c2, rs, rfl, k1, k2, k3, k4, k5, k6, k7, k8, k9⟩; have K4 := Lib.hid k4; have K8 := Lib.hid k8; clear k1 k3 k4 k7 k8))
      go_roundw
      case rel => exact ⟨B, d, ys, A2, c2, rs, rfl, rfl, hF'.below k9, k2, hd', K4, hl', by omega, by rw [K8.out]; exact HG, hbel.trans (k9.mono hbel.size)⟩
      case measure => rw [HY.out]; show vl 10 (rdN _ (.slice A2 rs.length c2)) < _; rw [rdN_of k2.sl, K8.out]; exact HM.out

set_option maxRecDepth 100000 in
set_option maxHeartbeats 800000 in
theorem refGcd_err (s t : ByteArray) (hs : s.size ≤ 1099511627776) (ht : t.size ≤ 1099511627776) (h : ¬ bothE s.data.toList t.data.toList = 0) (w : World) :
    Calls Tryd.prog 30 #[.string s, .string t] w fun e w' => e = .returned (.tuple #[.string ⟨#[]⟩, .int .i64 (bothE s.data.toList t.data.toList)]) ∧ Below w.heap.size w w' := by
  have HB := Lib.hid (both_any s t hs ht w)
  obtain ⟨x, hx⟩ : ∃ x, bothE s.data.toList t.data.toList = x := ⟨_, rfl⟩
  rw [hx] at HB h ⊢
  have h1 : (x == 0) = false := by rw [beq_eq_false_iff_ne]; exact h
  have h2 : (x != 0) = true := by rw [bne_iff_ne]; exact h
  clear h hx
  go_enter Tryd.func30, Tryd.ntmps30
  go_wp2_with (go_at_call 58; refine HB.out.mono ?_; rintro e w1 ⟨rfl, hb1⟩)
  go_ret2
  exact ⟨rfl, hb1⟩

theorem num_natAbs (l : List UInt8) : (num l).natAbs = vl 10 (dgs (bod l)) := by rw [num_sgn, sgn_natAbs]
theorem refGcd_any (s t : ByteArray) (hs : s.size ≤ 1099511627776) (ht : t.size ≤ 1099511627776) (w : World) :
    Calls Tryd.prog 30 #[.string s, .string t] w fun e w' => e = .returned (.tuple #[.string ⟨(gcS s.data.toList t.data.toList).1.toArray⟩, .int .i64 (gcS s.data.toList t.data.toList).2]) ∧ Below w.heap.size w w' := by
  by_cases h : bothE s.data.toList t.data.toList = 0
  · obtain ⟨h1, h2⟩ := bothE_zero h
    rw [gcS_ok h, num_natAbs, num_natAbs]
    exact refGcd_ok s t h1 h2 _ rfl w
  · rw [gcS_err h]
    exact refGcd_err s t hs ht h w
end Go.Proofs.YtlipjedofegciaaDoor

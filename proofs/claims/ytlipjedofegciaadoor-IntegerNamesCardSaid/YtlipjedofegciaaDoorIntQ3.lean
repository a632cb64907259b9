/- The walks of the reference of layer 1: DivMod. -/
import Derived.Test.YtlipjedofegciaaDoorIntQ1
namespace Go.Proofs.YtlipjedofegciaaDoor
open Go Go.RowKit

theorem digits_canF (s : ByteArray) (h : chk s.data.toList = 0) (X : Nat) (hX : vl 10 (dgs (bod s.data.toList)) = X) (g : Bool) (hg : ngB s.data.toList = g) (w : World) :
    Calls Tryd.prog 59 #[.string s] w fun e w' => ∃ A c xs, e = .returned (.tuple #[.slice A xs.length c, .bool g, .bool true]) ∧ SlF w' 0 A xs c ∧ (∀ d ∈ xs, d < 10) ∧ xs.length ≤ 1000 ∧ vl 10 xs = X ∧ Below w.heap.size w w' := by
  subst hX; subst hg
  refine (digits_yes s w (by rw [h]; decide) (by have := len_of_chk h; rw [← Lib.size_eq] at this; omega)).mono ?_
  rintro e w' ⟨v, rfl, hown, hb⟩
  rw [show (bod s.data.toList).length = (dgs (bod s.data.toList)).length by rw [dgs_length]] at hown
  obtain ⟨A, c, rfl, hF⟩ := SlF.of_own (base' := 0) hown (Nat.zero_le _)
  obtain ⟨h1, h2⟩ := bod_len_of_chk h
  exact ⟨A, c, _, rfl, hF, h2, by rw [dgs_length]; exact h1, rfl, hb⟩
theorem zero_of (A : Option Addr) (ca : Nat) (xs : List Nat) (b : Bool) (w : World) (hA : SlA encI w A xs) (ha : ∀ d ∈ xs, d < 10) (hla : xs.length ≤ 1099511627776) (hb : decide (vl 10 xs = 0) = b) :
    Calls Tryd.prog 66 #[.slice A xs.length ca] w fun e w' => e = .returned (.bool b) ∧ w = w' := by
  subst hb; exact zero_any A ca xs w hA ha hla
def DvR (w : World) (L Q R : Nat) (e : Ending) (w' : World) : Prop := ∃ A1 c1 qs A2 c2 rs, e = .returned (.tuple #[.slice A1 qs.length c1, .slice A2 rs.length c2]) ∧ SlA encI w' A1 qs ∧ SlF w' 0 A2 rs c2 ∧
      (∀ d ∈ qs, d < 10) ∧ (∀ d ∈ rs, d < 10) ∧ qs.length ≤ 1001 ∧ rs.length ≤ L + 1 ∧ vl 10 qs = Q ∧ vl 10 rs = R ∧ Below w.heap.size w w'
theorem refDivide_of (A B : Option Addr) (ca cb : Nat) (xs ys : List Nat) (X Y Q R : Nat) (w : World) (hA : SlF w 0 A xs ca) (hB : SlF w 0 B ys cb) (ha : ∀ d ∈ xs, d < 10) (hb : ∀ d ∈ ys, d < 10) (hla : xs.length ≤ 1001) (hlb : ys.length ≤ 1001)
    (hX : vl 10 xs = X) (hY : vl 10 ys = Y) (hY0 : 0 < Y) (hQ : X / Y = Q) (hR : X % Y = R) (K : Nat) (hK : Y < 10 ^ K) :
    Calls Tryd.prog 67 #[.slice A xs.length ca, .slice B ys.length cb] w (DvR w K Q R) := by
  subst hX; subst hY; subst hQ; subst hR
  refine (refDivide_any A B ca cb xs ys w hA.sl hB.sl ha hb (by omega) (by omega) hB.room hB.most hY0 K hK).mono ?_
  rintro e w' ⟨A1, c1, qs, A2, c2, rs, rfl, h1, h2, h3, h4, h5, h6, h7, h8, h9⟩
  exact ⟨A1, c1, qs, A2, c2, rs, rfl, h1, h2, h3, h4, by omega, h6, h7, h8, h9⟩
theorem text_is (neg : Bool) (A : Option Addr) (ca : Nat) (xs : List Nat) (w : World) (hA : SlA encI w A xs) (ha : ∀ d ∈ xs, d < 10) (hla : xs.length ≤ 1099511627776) (z : Int) (hz : sgn neg (vl 10 xs) = z) :
    Calls Tryd.prog 68 #[.slice A xs.length ca, .bool neg] w fun e w' => e = .returned (.string ⟨(Lib.itoa z).toArray⟩) ∧ Below w.heap.size w w' := by
  subst hz; exact text_any neg A ca xs w hA ha hla
theorem pow_1000_lt {l : List UInt8} (h : chk l = 0) : vl 10 (dgs (bod l)) < 10 ^ thou := by
  obtain ⟨h1, h2⟩ := bod_len_of_chk h
  refine Nat.lt_of_lt_of_le (vl_lt 10 _ h2) (Nat.pow_le_pow_right (by omega) (by rw [dgs_length]; exact h1))

section
variable (s t : ByteArray) (g k : Bool) (X Y : Nat) (hg : ngB s.data.toList = g) (hk : ngB t.data.toList = k) (hX : vl 10 (dgs (bod s.data.toList)) = X) (hY : vl 10 (dgs (bod t.data.toList)) = Y) (h1 : chk s.data.toList = 0) (h2 : chk t.data.toList = 0) (w : World)
include hg hk hX hY h1 h2

set_option maxRecDepth 100000 in
set_option maxHeartbeats 800000 in
theorem refDivMod_zero (h0 : Y = 0) : Calls Tryd.prog 29 #[.string s, .string t] w fun e w' => e = .returned (.tuple #[.string ⟨#[]⟩, .string ⟨#[]⟩, .int .i64 16]) ∧ Below w.heap.size w w' := by
  have hs := len_of_chk h1
  have ht := len_of_chk h2
  rw [← Lib.size_eq] at hs ht
  have HB := Lib.hid (both_any s t (by omega) (by omega) w)
  rw [show bothE s.data.toList t.data.toList = 0 by unfold bothE; rw [if_pos h1, h2]] at HB
  have HD := Lib.hid (digits_canF s h1 X hX g hg)
  have HE := Lib.hid (digits_canF t h2 Y hY k hk)
  subst h0
  clear hs ht hg hk hX hY h1 h2
  go_enter Tryd.func29, Tryd.ntmps29
  go_wp2_with (first
    | (go_at_call 58; refine HB.out.mono ?_; rintro e w1 ⟨rfl, hb1⟩)
    | (go_at_call 59; (with_reducible refine (HD.out _).mono ?_); rintro e w2 ⟨A, c, xs, rfl, hF, hd, hl, hn, hb2⟩; have HD1 := Lib.hid hd; have HN1 := Lib.hid hn; clear hd hn)
    | (go_at_call 59; (with_reducible refine (HE.out _).mono ?_); rintro e w3 ⟨B, d, ys, rfl, hF', hd', hl', hn', hb3⟩; have HD2 := Lib.hid hd'; have HN2 := Lib.hid hn'; clear hd' hn')
    | (go_at_call 66; refine (zero_of _ _ _ true _ hF'.sl HD2.out (by omega) (decide_eq_true HN2.out)).mono ?_; rintro e w4 ⟨rfl, rfl⟩))
  go_ret3
  exact ⟨rfl, bt (bt hb1 hb2) hb3⟩

set_option maxRecDepth 100000 in
set_option maxHeartbeats 1600000 in
theorem refDivMod_plain (h0 : 0 < Y) (hgz : g = false ∨ X % Y = 0) (z : Int) (hz : sgn (!(g == k)) (X / Y) = z) : Calls Tryd.prog 29 #[.string s, .string t] w fun e w' => e = .returned (.tuple #[.string ⟨(Lib.itoa z).toArray⟩, .string ⟨(Lib.itoa (sgn false (X % Y))).toArray⟩, .int .i64 0]) ∧ Below w.heap.size w w' := by
  have hs := len_of_chk h1
  have ht := len_of_chk h2
  rw [← Lib.size_eq] at hs ht
  have HB := Lib.hid (both_any s t (by omega) (by omega) w)
  rw [show bothE s.data.toList t.data.toList = 0 by unfold bothE; rw [if_pos h1, h2]] at HB
  have HD := Lib.hid (digits_canF s h1 X hX g hg)
  have HE := Lib.hid (digits_canF t h2 Y hY k hk)
  have HK : Hid (Y < 10 ^ thou) := by rw [← hY]; exact pow_1000_lt h2
  obtain ⟨Q, hQ⟩ : ∃ Q, X / Y = Q := ⟨_, rfl⟩
  obtain ⟨R, hR⟩ : ∃ R, X % Y = R := ⟨_, rfl⟩
  rw [hQ] at hz
  rw [hR] at hgz ⊢
  have HQ := Lib.hid hQ
  have HR := Lib.hid hR
  have HZ := Lib.hid hz
  have HY0 := Lib.hid h0
  have hth : thou ≤ 1000 := Nat.le_refl _
  have HZY : Hid (decide (Y = 0) = false) := decide_eq_false (by omega)
  clear hs ht hg hk hX hY h1 h2 hQ hR h0 hz
  rcases hgz with rfl | rfl
  all_goals
    try cases g
    all_goals
    cases k
    all_goals
      go_enter Tryd.func29, Tryd.ntmps29
      go_wp2_with (first
        | (go_at_call 58; refine HB.out.mono ?_; rintro e w1 ⟨rfl, hb1⟩)
        | (go_at_call 59; (with_reducible refine (HD.out _).mono ?_); rintro e w2 ⟨A, c, xs, rfl, hF, hd, hl, hn, hb2⟩; have HD1 := Lib.hid hd; have HN1 := Lib.hid hn; clear hd hn)
        | (go_at_call 59; (with_reducible refine (HE.out _).mono ?_); rintro e w3 ⟨B, d, ys, rfl, hF', hd', hl', hn', hb3⟩; have HD2 := Lib.hid hd'; have HN2 := Lib.hid hn'; clear hd' hn'; have ho' := Lib.hid hF'.room)
        | (go_at_call 66; (with_reducible refine (zero_of B d ys false _ hF'.sl HD2.out (by omega) (by rw [HN2.out]; exact HZY.out)).mono ?_); rintro e w4 ⟨rfl, rfl⟩)
        | (go_at_call 67; refine (refDivide_of A B c d xs ys X Y Q _ _ (hF.below hb3) hF' HD1.out HD2.out (by omega) (by omega) HN1.out HN2.out HY0.out HQ.out HR.out thou HK.out).mono ?_; rintro e w5 ⟨A1, c1, qs, A2, c2, rs, rfl, k1, k2, k3, k4, k5, k6, k7, k8, k9⟩; have K3 := Lib.hid k3; have K4 := Lib.hid k4; have K7 := Lib.hid k7; have K8 := Lib.hid k8; clear k3 k4 k7 k8)
        | (go_at_call 66; (with_reducible refine (zero_of A2 c2 rs true _ k2.sl K4.out (by omega) (decide_eq_true K8.out)).mono ?_); rintro e w6 ⟨rfl, rfl⟩)
        | (go_at_call 68; (with_reducible refine (text_is _ A1 c1 qs _ k1 K3.out (by omega) z (by rw [K7.out]; with_unfolding_all exact HZ.out)).mono ?_); rintro e w7 ⟨rfl, hb7⟩)
        | (go_at_call 68; (with_reducible refine (text_is _ A2 c2 rs _ (k2.sl.below hb7) K4.out (by omega) _ (by rw [K8.out])).mono ?_); rintro e w8 ⟨rfl, hb8⟩))
      go_ret3
      exact ⟨rfl, bt (bt (bt (bt (bt hb1 hb2) hb3) k9) hb7) hb8⟩
end
end Go.Proofs.YtlipjedofegciaaDoor

/- Joined: IntD, IntD2, IntD3, IntK, IntK2, IntK3, IntK4, IntK5, IntK6. -/
import Derived.Test.YtalejbabhjlehaaGreatDoorPk9
import Derived.Deep.CutBlock
import Derived.Deep.DeepCutAuto
import Derived.BigRegion
import Derived.BigQuiet
import Derived.Laws.Externs
/- The walks of layer 1: the arithmetic of bits.Div64. -/
namespace Go.Proofs.YtalejbabhjlehaaGreatDoor
open Go Go.RowKit
structure DC (U Y1 Y0 L1 Y Q : Nat) : Prop where
  y : Y = Y1 * 4294967296 + Y0
  y1 : 2147483648 ≤ Y1
  y1' : Y1 < 4294967296
  y0 : Y0 < 4294967296
  l1 : L1 < 4294967296
  u : U < Y
  q : Q = (U * 4294967296 + L1) / Y
def DInv (U Y1 Q q r : Nat) : Prop := q * Y1 + r = U ∧ Q ≤ q ∧ q ≤ 4294967297 ∧ r < 4294967296
section
variable {U Y1 Y0 L1 Y Q q r : Nat}
theorem DC.le (h : DC U Y1 Y0 L1 Y Q) : q ≤ Q ↔ q * Y ≤ U * 4294967296 + L1 := by
  rw [h.q, Nat.le_div_iff_mul_le (by have := h.y; have := h.y1; omega)]
theorem DC.mul (h : DC U Y1 Y0 L1 Y Q) : q * Y = q * Y1 * 4294967296 + q * Y0 := by
  rw [h.y, Nat.mul_add, Nat.mul_assoc]
theorem DC.small (h : DC U Y1 Y0 L1 Y Q) : Q < 4294967296 := by
  have h1 := h.u; have h2 := h.l1
  rw [h.q, Nat.div_lt_iff_lt_mul (by omega)]
  omega
theorem DC.start (h : DC U Y1 Y0 L1 Y Q) : DInv U Y1 Q (U / Y1) (U % Y1) := by
  have h1 := h.y1; have h2 := h.y1'
  have hm := Nat.div_add_mod U Y1
  have hr := Nat.mod_lt U (show 0 < Y1 by omega)
  have hq : Q ≤ U / Y1 := by
    rw [Nat.le_div_iff_mul_le (by omega)]
    have a := (h.le (q := Q)).1 (Nat.le_refl _)
    rw [h.mul] at a
    have := h.l1
    omega
  refine ⟨by rw [Nat.mul_comm]; exact hm, hq, ?_, by omega⟩
  have hu := h.u; have hy := h.y; have h0 := h.y0
  have : U / Y1 < 4294967298 := by
    rw [Nat.div_lt_iff_lt_mul (by omega)]
    omega
  omega
theorem DInv.stop (hi : DInv U Y1 Q q r) (h : DC U Y1 Y0 L1 Y Q) (h2 : q * Y0 ≤ 4294967296 * r + L1) : q = Q := by
  obtain ⟨a, b, _, _⟩ := hi
  have : q ≤ Q := by
    rw [h.le, h.mul]
    omega
  omega
theorem DInv.step (hi : DInv U Y1 Q q r) (h : DC U Y1 Y0 L1 Y Q) (ht : 4294967296 ≤ q ∨ 4294967296 * r + L1 < q * Y0) :
    1 ≤ q ∧ (r + Y1 < 4294967296 → DInv U Y1 Q (q - 1) (r + Y1)) ∧ (4294967296 ≤ r + Y1 → q - 1 = Q) := by
  obtain ⟨a, b, c, d⟩ := hi
  have hQ : Q < q := by
    rcases ht with ht | ht
    · have := h.small; omega
    · rcases Nat.lt_or_ge Q q with hl | hl
      · exact hl
      · have := h.le.1 hl
        rw [h.mul] at this
        omega
  obtain ⟨p, rfl⟩ : ∃ p, q = p + 1 := ⟨q - 1, by omega⟩
  rw [Nat.add_mul, Nat.one_mul] at a
  refine ⟨by omega, fun hl => ⟨by rw [Nat.add_sub_cancel]; omega, by omega, by omega, hl⟩, fun hl => ?_⟩
  have : p ≤ Q := by
    rw [h.le, h.mul]
    have h0 : p * Y0 ≤ 4294967296 * 4294967296 := Nat.mul_le_mul (by omega) (by have := h.y0; omega)
    omega
  omega
theorem DC.rest (h : DC U Y1 Y0 L1 Y Q) : Q * Y + (U * 4294967296 + L1) % Y = U * 4294967296 + L1 ∧ (U * 4294967296 + L1) % Y < Y := by
  have hm := Nat.div_add_mod (U * 4294967296 + L1) Y
  rw [← h.q, Nat.mul_comm] at hm
  exact ⟨hm, Nat.mod_lt _ (by have := h.u; omega)⟩
end
end Go.Proofs.YtalejbabhjlehaaGreatDoor
/- The walks of layer 1: bits.Div64 at a divisor below 2^60. -/
namespace Go.Proofs.YtalejbabhjlehaaGreatDoor
open Go Go.RowKit
theorem wrap_mul {a b : Nat} (h : a * b < 18446744073709551616) : IntKind.u64.wrap ((a : Int) * (b : Int)) = ((a * b : Nat) : Int) := by
  rw [← Int.natCast_mul]; exact Mul64.wrapN _ h
set_option maxRecDepth 100000 in
set_option maxHeartbeats 1600000 in
theorem div64_core (hi lo y s Y Y1 Y0 U L L1 L0 Q1 R1 Q0 qa ra qb rb : Nat) (h0 : 0 < hi) (h1 : hi < y) (hs1 : 4 ≤ s) (hs2 : s ≤ 63)
    (hy : y ≤ 1152921504606846975) (hlo : lo ≤ 18446744073709551615)
    (hs : (64 - (Lib.bitLen y : Int)) = s)
    (C1 : DC U Y1 Y0 L1 Y Q1) (C0 : DC R1 Y1 Y0 L0 Y Q0)
    (E1 : IntKind.u64.wrap ((y : Int) * 2 ^ s) = (Y : Int)) (E2 : (Y : Int) / 4294967296 = (Y1 : Int)) (E3 : bits .and .u64 (Y : Int) 4294967295 = (Y0 : Int))
    (E4 : bits .or .u64 (IntKind.u64.wrap ((hi : Int) * 2 ^ s)) ((lo : Int) / 2 ^ (64 - s)) = (U : Int))
    (E5 : IntKind.u64.wrap ((lo : Int) * 2 ^ s) = (L : Int)) (E6 : (L : Int) / 4294967296 = (L1 : Int)) (E7 : bits .and .u64 (L : Int) 4294967295 = (L0 : Int))
    (E8 : IntKind.u64.wrap ((U : Int) / (Y1 : Int)) = (qa : Int)) (E9 : IntKind.u64.wrap ((U : Int) - IntKind.u64.wrap ((qa : Int) * (Y1 : Int))) = (ra : Int))
    (E10 : IntKind.u64.wrap (IntKind.u64.wrap (IntKind.u64.wrap ((U : Int) * 4294967296) + (L1 : Int)) - IntKind.u64.wrap ((Q1 : Int) * (Y : Int))) = (R1 : Int))
    (E11 : IntKind.u64.wrap ((R1 : Int) / (Y1 : Int)) = (qb : Int)) (E12 : IntKind.u64.wrap ((R1 : Int) - IntKind.u64.wrap ((qb : Int) * (Y1 : Int))) = (rb : Int))
    (I1 : DInv U Y1 Q1 qa ra) (I0 : DInv R1 Y1 Q0 qb rb) (w : World) :
    Calls Tryz.prog 181 #[.int .u64 hi, .int .u64 lo, .int .u64 y] w fun e w' => ∃ r, e = .returned (.tuple #[.int .u64 ((Q1 * 4294967296 + Q0 : Nat) : Int), .int .u64 r]) ∧ w = w' := by
  rw [show ((Q1 * 4294967296 + Q0 : Nat) : Int) = (Q1 : Int) * 4294967296 + (Q0 : Int) from by omega]
  have LZ := Lib.hid (Tryz.bits_LeadingZeros64 (y : Int) w (by omega) (by omega))
  rw [show ((y : Int)).toNat = y from rfl, hs] at LZ
  have e1 : ((hi : Int) == 0) = false := by rw [beq_eq_false_iff_ne]; omega
  have e2 : ((y : Int) == 0) = false := by rw [beq_eq_false_iff_ne]; omega
  have h1' : (hi : Int) < (y : Int) := by omega
  have hs1' : (4 : Int) ≤ s := by omega
  have hs2' : (s : Int) ≤ 63 := by omega
  have g1 : 0 ≤ (hi : Int) := by omega
  have g3 : (hi : Int) ≤ 1152921504606846975 := by omega
  have g4 : 0 ≤ (lo : Int) := by omega
  have g5 : 0 ≤ (y : Int) := by omega
  have g6 : (y : Int) ≤ 1152921504606846975 := by omega
  have g7 : (lo : Int) ≤ 18446744073709551615 := by omega
  have g8 : ¬ (Y1 : Int) = 0 := by have := C1.y1; omega
  have g9 : ((Y1 : Int) == 0) = false := by rw [beq_eq_false_iff_ne]; exact g8
  have a1 : (2147483648 : Int) ≤ Y1 := by have := C1.y1; omega
  have a2 : (Y1 : Int) ≤ 4294967295 := by have := C1.y1'; omega
  have a3 : (Y0 : Int) ≤ 4294967295 := by have := C1.y0; omega
  have a4 : (L1 : Int) ≤ 4294967295 := by have := C1.l1; omega
  have a5 : (L0 : Int) ≤ 4294967295 := by have := C0.l1; omega
  have a6 : (Q1 : Int) ≤ 4294967295 := by have := C1.small; omega
  have a7 : (Q0 : Int) ≤ 4294967295 := by have := C0.small; omega
  have HC1 := Lib.hid C1
  have HC0 := Lib.hid C0
  have HI1 := Lib.hid I1
  have HI0 := Lib.hid I0
  have b3 : Y0 ≤ 4294967295 := by omega
  have HB3 := Lib.hid b3
  clear hs hs1 hs2 h0 h1 hy hlo C1 C0 I1 I0 b3
  go_enter Tryz.func181, Tryz.ntmps181
  go_upto_block 0 with (go_at_call 183; refine LZ.out.mono ?_; rintro e w1 ⟨rfl, rfl⟩)
  go_cut [15, 16] from 67 to 85 (fun q _ wc => q = .int .u64 Q1 ∧ wc = w1)
  case first =>
    go_wp2_with fail
    go_loopw [15, 16] (fun q r wr => ∃ q' r' : Nat, q = .int .u64 q' ∧ r = .int .u64 r' ∧ Hid (DInv U Y1 Q1 q' r') ∧ wr = w1) (fun q _ _ => (intOf q).toNat)
    case atStart => exact ⟨_, _, rfl, rfl, HI1, rfl⟩
    case round =>
      obtain ⟨q, r, rfl, rfl, hi, rfl⟩ := hrel
      obtain ⟨P, hP⟩ : ∃ P, q * Y0 = P := ⟨_, rfl⟩
      have c1 : (q : Int) ≤ 4294967297 := by have := hi.out.2.2.1; omega
      have c2 : (r : Int) ≤ 4294967295 := by have := hi.out.2.2.2; omega
      have eP : IntKind.u64.wrap ((q : Int) * (Y0 : Int)) = (P : Int) := by
        rw [← hP]
        refine wrap_mul (Nat.lt_of_le_of_lt (Nat.mul_le_mul (show q ≤ 4294967297 by omega) HB3.out) (by decide))
      obtain ⟨T, hT⟩ : ∃ T, 4294967296 * r + L1 = T := ⟨_, rfl⟩
      have eT : 4294967296 * (r : Int) + (L1 : Int) = (T : Int) := by omega
      have eT' : (T : Int) ≤ 18446744073709551615 := by omega
      by_cases ht : 4294967296 ≤ q ∨ 4294967296 * r + L1 < q * Y0
      · obtain ⟨d1, d2, d3⟩ := hi.out.step HC1.out ht
        have HD2 := Lib.hid d2
        have HD3 := Lib.hid d3
        clear d2 d3
        have d1' : (1 : Int) ≤ q := by omega
        rw [hP, hT] at ht
        by_cases hbk : 4294967296 ≤ r + Y1
        · have hbk' : (4294967296 : Int) ≤ (r : Int) + (Y1 : Int) := by omega
          have HQ : Hid (((q : Int) - 1) = (Q1 : Int)) := by
            have := HD3.out hbk
            show _ = _
            omega
          clear hP hT hi hbk d1
          by_cases hq : 4294967296 ≤ q
          · have hq' : (4294967296 : Int) ≤ q := by omega
            clear ht hq
            go_wp2
            go_meet
            case rel => exact ⟨by rw [HQ.out], rfl⟩
          · have hq' : decide ((4294967296 : Int) ≤ (q : Int)) = false := decide_eq_false (by omega)
            have ht' : (T : Int) < (P : Int) := by omega
            clear ht hq
            go_wp2
            go_meet
            case rel => exact ⟨by rw [HQ.out], rfl⟩
        · have hbk' : decide ((4294967296 : Int) ≤ (r : Int) + (Y1 : Int)) = false := decide_eq_false (by omega)
          have HQ := Lib.hid (HD2.out (by omega))
          have HQ1 : Hid (Value.int .u64 ((q : Int) - 1) = Value.int .u64 ((q - 1 : Nat) : Int)) := by
            show _ = _
            rw [show ((q : Int) - 1) = ((q - 1 : Nat) : Int) by omega]
          have HQ2 : Hid (Value.int .u64 ((r : Int) + (Y1 : Int)) = Value.int .u64 ((r + Y1 : Nat) : Int)) := by
            show _ = _
            rw [Int.natCast_add]
          clear hP hT hi hbk d1
          by_cases hq : 4294967296 ≤ q
          · have hq' : (4294967296 : Int) ≤ q := by omega
            clear ht hq
            go_wp2
            go_roundw
            case rel => exact ⟨q - 1, r + Y1, HQ1.out, HQ2.out, HQ.out, trivial⟩
            case measure => simp [intOf]; omega
          · have hq' : decide ((4294967296 : Int) ≤ (q : Int)) = false := decide_eq_false (by omega)
            have ht' : (T : Int) < (P : Int) := by omega
            clear ht hq
            go_wp2
            go_roundw
            case rel => exact ⟨q - 1, r + Y1, HQ1.out, HQ2.out, HQ.out, trivial⟩
            case measure => simp [intOf]; omega
      · have hq' : decide ((4294967296 : Int) ≤ (q : Int)) = false := decide_eq_false (by omega)
        have HQ := Lib.hid (hi.out.stop HC1.out (by omega))
        have ht' : (P : Int) ≤ (T : Int) := by omega
        clear hP hT hi ht
        go_wp2
        go_meet
        case rel => exact ⟨by rw [HQ.out], rfl⟩
  case rest =>
    obtain ⟨rfl, rfl⟩ := hcut
    go_upto_block 2 with fail
    go_cut [16, 18] from 102 to 120 (fun _ q w9 => q = .int .u64 Q0 ∧ w9 = wc)
    case first =>
      go_wp2_with fail
      go_loopw [16, 18] (fun r q wr => ∃ q' r' : Nat, q = .int .u64 q' ∧ r = .int .u64 r' ∧ Hid (DInv R1 Y1 Q0 q' r') ∧ wr = wc) (fun _ q _ => (intOf q).toNat)
      case atStart => exact ⟨_, _, rfl, rfl, HI0, rfl⟩
      case round =>
        obtain ⟨q, r, rfl, rfl, hi, rfl⟩ := hrel
        obtain ⟨P, hP⟩ : ∃ P, q * Y0 = P := ⟨_, rfl⟩
        have c1 : (q : Int) ≤ 4294967297 := by have := hi.out.2.2.1; omega
        have c2 : (r : Int) ≤ 4294967295 := by have := hi.out.2.2.2; omega
        have eP : IntKind.u64.wrap ((q : Int) * (Y0 : Int)) = (P : Int) := by
          rw [← hP]
          refine wrap_mul (Nat.lt_of_le_of_lt (Nat.mul_le_mul (show q ≤ 4294967297 by omega) HB3.out) (by decide))
        obtain ⟨T, hT⟩ : ∃ T, 4294967296 * r + L0 = T := ⟨_, rfl⟩
        have eT : 4294967296 * (r : Int) + (L0 : Int) = (T : Int) := by omega
        have eT' : (T : Int) ≤ 18446744073709551615 := by omega
        by_cases ht : 4294967296 ≤ q ∨ 4294967296 * r + L0 < q * Y0
        · obtain ⟨d1, d2, d3⟩ := hi.out.step HC0.out ht
          have HD2 := Lib.hid d2
          have HD3 := Lib.hid d3
          clear d2 d3
          have d1' : (1 : Int) ≤ q := by omega
          rw [hP, hT] at ht
          by_cases hbk : 4294967296 ≤ r + Y1
          · have hbk' : (4294967296 : Int) ≤ (r : Int) + (Y1 : Int) := by omega
            have HQ : Hid (((q : Int) - 1) = (Q0 : Int)) := by
              have := HD3.out hbk
              show _ = _
              omega
            clear hP hT hi hbk d1
            by_cases hq : 4294967296 ≤ q
            · have hq' : (4294967296 : Int) ≤ q := by omega
              clear ht hq
              go_wp2
              go_meet
              case rel => exact ⟨by rw [HQ.out], rfl⟩
            · have hq' : decide ((4294967296 : Int) ≤ (q : Int)) = false := decide_eq_false (by omega)
              have ht' : (T : Int) < (P : Int) := by omega
              clear ht hq
              go_wp2
              go_meet
              case rel => exact ⟨by rw [HQ.out], rfl⟩
          · have hbk' : decide ((4294967296 : Int) ≤ (r : Int) + (Y1 : Int)) = false := decide_eq_false (by omega)
            have HQ := Lib.hid (HD2.out (by omega))
            have HQ1 : Hid (Value.int .u64 ((q : Int) - 1) = Value.int .u64 ((q - 1 : Nat) : Int)) := by
              show _ = _
              rw [show ((q : Int) - 1) = ((q - 1 : Nat) : Int) by omega]
            have HQ2 : Hid (Value.int .u64 ((r : Int) + (Y1 : Int)) = Value.int .u64 ((r + Y1 : Nat) : Int)) := by
              show _ = _
              rw [Int.natCast_add]
            clear hP hT hi hbk d1
            by_cases hq : 4294967296 ≤ q
            · have hq' : (4294967296 : Int) ≤ q := by omega
              clear ht hq
              go_wp2
              go_roundw
              case rel => exact ⟨q - 1, r + Y1, HQ1.out, HQ2.out, HQ.out, trivial⟩
              case measure => simp [intOf]; omega
            · have hq' : decide ((4294967296 : Int) ≤ (q : Int)) = false := decide_eq_false (by omega)
              have ht' : (T : Int) < (P : Int) := by omega
              clear ht hq
              go_wp2
              go_roundw
              case rel => exact ⟨q - 1, r + Y1, HQ1.out, HQ2.out, HQ.out, trivial⟩
              case measure => simp [intOf]; omega
        · have hq' : decide ((4294967296 : Int) ≤ (q : Int)) = false := decide_eq_false (by omega)
          have HQ := Lib.hid (hi.out.stop HC0.out (by omega))
          have ht' : (P : Int) ≤ (T : Int) := by omega
          clear hP hT hi ht
          go_wp2
          go_meet
          case rel => exact ⟨by rw [HQ.out], rfl⟩
    case rest =>
      obtain ⟨rfl, rfl⟩ := hcut
      go_wp2
      go_ret2
      exact ⟨_, rfl, rfl⟩
end Go.Proofs.YtalejbabhjlehaaGreatDoor
/- The walks of layer 1: bits.Div64, whole. -/
namespace Go.Proofs.YtalejbabhjlehaaGreatDoor
open Go Go.RowKit
set_option maxRecDepth 100000 in
theorem div64_zero (lo y : Nat) (h1 : 0 < y) (hy : y ≤ 1152921504606846975) (hlo : lo ≤ 18446744073709551615) (w : World) :
    Calls Tryz.prog 181 #[.int .u64 0, .int .u64 lo, .int .u64 y] w fun e w' => ∃ r, e = .returned (.tuple #[.int .u64 ((lo / y : Nat) : Int), .int .u64 r]) ∧ ∃ n, w' = w.drewN n := by
  rw [show ((lo / y : Nat) : Int) = (lo : Int) / (y : Int) from Int.natCast_ediv _ _]
  have e2 : ((y : Int) == 0) = false := by rw [beq_eq_false_iff_ne]; omega
  have e3 : ¬ (y : Int) = 0 := by omega
  have g0 : 0 < (y : Int) := by omega
  have g4 : 0 ≤ (lo : Int) := by omega
  have g6 : (y : Int) ≤ 1152921504606846975 := by omega
  have g7 : (lo : Int) ≤ 18446744073709551615 := by omega
  have e5 : IntKind.u64.wrap ((lo : Int) / (y : Int)) = (lo : Int) / (y : Int) := by
    rw [show (lo : Int) / (y : Int) = ((lo / y : Nat) : Int) from (Int.natCast_ediv _ _).symm]
    exact Mul64.wrapN _ (Nat.lt_of_le_of_lt (Nat.div_le_self _ _) (by omega))
  clear h1 hy hlo
  go_enter Tryz.func181, Tryz.ntmps181
  go_wp2_with fail
  go_quiet (fail)
  go_wp2
  go_ret2
  exact ⟨_, rfl, _, rfl⟩
theorem e10 (U L1 Y Q R : Nat) (h : Q * Y + R = U * 4294967296 + L1) (hR : R < 18446744073709551616) :
    IntKind.u64.wrap (IntKind.u64.wrap (IntKind.u64.wrap ((U : Int) * 4294967296) + (L1 : Int)) - IntKind.u64.wrap ((Q : Int) * (Y : Int))) = (R : Int) := by
  have e : (Q : Int) * (Y : Int) = ((Q * Y : Nat) : Int) := (Int.natCast_mul _ _).symm
  rw [e]
  generalize Q * Y = z at *
  simp only [IntKind.wrap_u64]
  omega
theorem e9 (U Y1 : Nat) (hU : U < 18446744073709551616) : IntKind.u64.wrap ((U : Int) - IntKind.u64.wrap (((U / Y1 : Nat) : Int) * (Y1 : Int))) = ((U % Y1 : Nat) : Int) := by
  have e : ((U / Y1 : Nat) : Int) * (Y1 : Int) = ((U / Y1 * Y1 : Nat) : Int) := (Int.natCast_mul _ _).symm
  have hm := Nat.div_add_mod U Y1
  rw [Nat.mul_comm] at hm
  rw [e]
  generalize U / Y1 * Y1 = z at *
  simp only [IntKind.wrap_u64]
  omega
theorem e8 (U Y1 : Nat) (hU : U < 18446744073709551616) : IntKind.u64.wrap ((U : Int) / (Y1 : Int)) = ((U / Y1 : Nat) : Int) := by
  rw [← Int.natCast_ediv]
  exact Mul64.wrapN _ (Nat.lt_of_le_of_lt (Nat.div_le_self _ _) hU)
theorem two_halves (N Y L1 L0 U Q1 R1 Q0 : Nat) (hY : 0 < Y) (h1 : Q1 * Y + R1 = U * 4294967296 + L1) (h0 : Q0 = (R1 * 4294967296 + L0) / Y) (hN : N = (U * 4294967296 + L1) * 4294967296 + L0) : N / Y = Q1 * 4294967296 + Q0 := by
  have e : N = (R1 * 4294967296 + L0) + Y * (Q1 * 4294967296) := by
    rw [hN, ← h1, ← Nat.mul_assoc, Nat.mul_comm Y Q1]
    omega
  rw [e, Nat.add_mul_div_left _ _ hY, ← h0]
  omega
theorem div64_nums (hi lo y p p' : Nat) (hp : p * p' = 18446744073709551616) (hlt : hi < y) (hlo : lo < 18446744073709551616) (hy' : y < p') (hyp : p' ≤ 2 * y) (hp0 : 0 < p) :
    9223372036854775808 ≤ y * p ∧ y * p < 18446744073709551616 ∧ lo / p' < p ∧ hi * p + lo / p' < y * p ∧ (hi * p + lo / p') * 18446744073709551616 + lo * p % 18446744073709551616 = (hi * 18446744073709551616 + lo) * p := by
  have a1 : p' * p ≤ 2 * y * p := Nat.mul_le_mul_right _ hyp
  have a2 : y * p < p' * p := Nat.mul_lt_mul_of_pos_right hy' hp0
  have a3 : (hi + 1) * p ≤ y * p := Nat.mul_le_mul_right _ hlt
  have a4 : lo / p' < p := by
    rw [Nat.div_lt_iff_lt_mul (by omega), hp]; exact hlo
  have hm := Nat.div_add_mod lo p'
  have hr : lo % p' < p' := Nat.mod_lt _ (by omega)
  have a5 : lo * p = lo / p' * 18446744073709551616 + lo % p' * p := by
    rw [← hp]
    have : (p' * (lo / p') + lo % p') * p = lo / p' * (p * p') + lo % p' * p := by grind
    rw [hm] at this
    exact this
  have a6 : lo % p' * p < 18446744073709551616 := by
    rw [← hp, Nat.mul_comm p p']
    exact Nat.mul_lt_mul_of_pos_right hr hp0
  rw [Nat.mul_comm p' p, hp] at a1 a2
  rw [Nat.mul_assoc] at a1
  rw [Nat.add_mul, Nat.one_mul] at a3
  refine ⟨by omega, a2, a4, by omega, ?_⟩
  rw [a5, Nat.add_mul, Nat.add_mul]
  have a7 : hi * 18446744073709551616 * p = hi * p * 18446744073709551616 := by grind
  rw [a7]
  generalize hi * p = z at *
  generalize lo % p' * p = t at *
  omega
theorem div64_any (hi lo y : Nat) (hlt : hi < y) (hy : y ≤ 1152921504606846975) (hlo : lo ≤ 18446744073709551615) (w : World) :
    Calls Tryz.prog 181 #[.int .u64 hi, .int .u64 lo, .int .u64 y] w fun e w' => ∃ r, e = .returned (.tuple #[.int .u64 (((hi * 18446744073709551616 + lo) / y : Nat) : Int), .int .u64 r]) ∧ ∃ n, w' = w.drewN n := by
  rcases Nat.eq_zero_or_pos hi with rfl | h0
  · rw [Nat.zero_mul, Nat.zero_add]
    exact div64_zero lo y (by omega) hy hlo w
  obtain ⟨b1, b2, b3⟩ := Lib.bitLenAux_bounds 64 y (Nat.lt_of_le_of_lt hy (by decide)) (by omega)
  have hb0 : Lib.bitLen y = Lib.bitLenAux 64 y := rfl
  rw [← hb0] at b1 b2 b3
  clear hb0
  obtain ⟨b, hb⟩ : ∃ b, Lib.bitLen y = b + 1 := ⟨Lib.bitLen y - 1, by omega⟩
  rw [hb, Nat.add_sub_cancel] at b2
  rw [hb] at b3
  have hb59 : b ≤ 59 := by
    rcases Nat.lt_or_ge 59 b with h | h
    · have : 2 ^ 60 ≤ 2 ^ b := Nat.pow_le_pow_right (by omega) h
      have h60 : (2 : Nat) ^ 60 = 1152921504606846976 := by decide
      omega
    · exact h
  obtain ⟨s, hs⟩ : ∃ s, s + (b + 1) = 64 := ⟨63 - b, by omega⟩
  have hs64 : 64 - s = b + 1 := by omega
  have hpp : 2 ^ s * 2 ^ (b + 1) = 18446744073709551616 := by
    rw [← Nat.pow_add, hs]
  have hp0 : 0 < 2 ^ s := Nat.pow_pos (by omega)
  have hyp : 2 ^ (b + 1) ≤ 2 * y := by rw [Nat.pow_succ]; omega
  have c1 : (2 : Int) ^ s = ((2 ^ s : Nat) : Int) := by rw [Int.natCast_pow]; rfl
  have c2 : (2 : Int) ^ (b + 1) = ((2 ^ (b + 1) : Nat) : Int) := by rw [Int.natCast_pow]; rfl
  obtain ⟨n1, n2, n3, n4, n5⟩ := div64_nums hi lo y (2 ^ s) (2 ^ (b + 1)) hpp hlt (by omega) b3 hyp hp0
  have hor : hi * 2 ^ s ||| lo / 2 ^ (b + 1) = hi * 2 ^ s + lo / 2 ^ (b + 1) := by
    rw [Nat.mul_comm]
    exact (Nat.two_pow_add_eq_or_of_lt n3 hi).symm
  have hA : hi * 2 ^ s < 18446744073709551616 := Nat.lt_of_le_of_lt (Nat.le_add_right _ _) (Nat.lt_trans n4 n2)
  have hB : lo / 2 ^ (b + 1) < 18446744073709551616 := Nat.lt_of_le_of_lt (Nat.le_add_left _ _) (Nat.lt_trans n4 n2)
  have E4 : bits .or .u64 (IntKind.u64.wrap ((hi : Int) * 2 ^ s)) ((lo : Int) / 2 ^ (64 - s)) = ((hi * 2 ^ s + lo / 2 ^ (b + 1) : Nat) : Int) := by
    rw [hs64, c1, c2, ← Int.natCast_mul, Mul64.wrapN _ hA, ← Int.natCast_ediv, bits_or_u64_nat _ _ hA hB, hor]
  have E1 : IntKind.u64.wrap ((y : Int) * 2 ^ s) = ((y * 2 ^ s : Nat) : Int) := by
    rw [c1, ← Int.natCast_mul]; exact Mul64.wrapN _ n2
  have E5 : IntKind.u64.wrap ((lo : Int) * 2 ^ s) = ((lo * 2 ^ s % 18446744073709551616 : Nat) : Int) := by
    rw [c1, ← Int.natCast_mul]; exact Mul64.wrapM _
  have hq : (hi * 18446744073709551616 + lo) / y = ((hi * 2 ^ s + lo / 2 ^ (b + 1)) * 18446744073709551616 + lo * 2 ^ s % 18446744073709551616) / (y * 2 ^ s) := by
    rw [n5, Nat.mul_div_mul_right _ _ hp0]
  have hL : lo * 2 ^ s % 18446744073709551616 < 18446744073709551616 := Nat.mod_lt _ (by omega)
  rw [hq]
  clear hA hB hor hq n5 n3 hpp hp0 hyp c1 c2 b2 b3 hs64
  generalize lo * 2 ^ s % 18446744073709551616 = L at *
  generalize hi * 2 ^ s + lo / 2 ^ (b + 1) = U at *
  generalize y * 2 ^ s = Y at *
  have C1 : DC U (Y / 4294967296) (Y % 4294967296) (L / 4294967296) Y ((U * 4294967296 + L / 4294967296) / Y) := ⟨by omega, by omega, by omega, by omega, by omega, n4, rfl⟩
  obtain ⟨r1, r2⟩ := C1.rest
  have C0 : DC ((U * 4294967296 + L / 4294967296) % Y) (Y / 4294967296) (Y % 4294967296) (L % 4294967296) Y (((U * 4294967296 + L / 4294967296) % Y * 4294967296 + L % 4294967296) / Y) := ⟨by omega, by omega, by omega, by omega, by omega, r2, rfl⟩
  have ht := two_halves (U * 18446744073709551616 + L) Y (L / 4294967296) (L % 4294967296) U _ _ _ (by omega) r1 rfl (by omega)
  rw [ht]
  refine (div64_core hi lo y s Y (Y / 4294967296) (Y % 4294967296) U L (L / 4294967296) (L % 4294967296) ((U * 4294967296 + L / 4294967296) / Y) ((U * 4294967296 + L / 4294967296) % Y) (((U * 4294967296 + L / 4294967296) % Y * 4294967296 + L % 4294967296) / Y)
    (U / (Y / 4294967296)) (U % (Y / 4294967296)) ((U * 4294967296 + L / 4294967296) % Y / (Y / 4294967296)) ((U * 4294967296 + L / 4294967296) % Y % (Y / 4294967296))
    h0 hlt (by omega) (by omega) hy hlo (by rw [hb]; omega) C1 C0 E1 (Mul64.divN Y) (Mul64.maskN Y n2) E4 E5 (Mul64.divN L) (Mul64.maskN L hL) (e8 _ _ (by omega)) (e9 _ _ (by omega))
    (e10 U _ Y _ _ r1 (by omega)) (e8 _ _ (by omega)) (e9 _ _ (by omega)) C1.start C0.start w).mono ?_
  rintro e w' ⟨r, rfl, rfl⟩
  exact ⟨r, rfl, 0, rfl⟩
end Go.Proofs.YtalejbabhjlehaaGreatDoor
/- The walks of layer 1: the guess of a group of the quotient. -/
namespace Go.Proofs.YtalejbabhjlehaaGreatDoor
open Go Go.RowKit
theorem add64_run (x y : Nat) (hx : x < 18446744073709551616) (hy : y < 18446744073709551616) (w : World) :
    (callFunc 180 #[.int .u64 x, .int .u64 y, .int .u64 0]).run Tryz.prog w = .ok (.value (.tuple #[.int .u64 (((x + y) % 18446744073709551616 : Nat) : Int), .int .u64 (((x + y) / 18446744073709551616 : Nat) : Int)])) w := by
  rw [run_callFunc_extern Tryz.func180 (by kernel_rfl) (by kernel_rfl) (by kernel_rfl) (e := add64Entry) (by kernel_rfl)]
  rw [run_add64 (P := Tryz.prog) (x : Int) (y : Int) 0 (by omega) (by omega) (by omega) (by omega) w]
  simp only [Result.andThen]
  rw [show ((x : Int) + y + 0) % 18446744073709551616 = (((x + y) % 18446744073709551616 : Nat) : Int) from by omega, show ((x : Int) + y + 0) / 18446744073709551616 = (((x + y) / 18446744073709551616 : Nat) : Int) from by omega]
def low (xs : List Nat) (k : Nat) : Nat := if k = 0 then 0 else xs.getD (k - 1) 0
theorem low_lt (xs : List Nat) (k : Nat) (h : ∀ d ∈ xs, d < 1000000000) : low xs k < 1000000000 := by
  unfold low; split
  · omega
  · exact getD_lt 1000000000 xs h (by omega) _
theorem at_low (A : Option Addr) (c : Nat) (ds : List Nat) (w : World) (hA : SlA encU w A ds) (k : Nat) :
    Calls Tryz.prog 178 #[.slice A ds.length c, .int .i64 ((k : Int) - 1)] w fun e w' => e = .returned (.int .u32 ((low ds k : Nat) : Int)) ∧ w = w' := by
  unfold low
  cases k with
  | zero => exact mat_neg A c _ w _ (by omega)
  | succ k =>
    rw [show ((k + 1 : Nat) : Int) - 1 = (k : Int) from by omega, if_neg (by omega), Nat.add_sub_cancel]
    exact mat_any A c ds w hA k
theorem SlA.heap {α : Type} {enc : α → Value} {w W : World} {A : Option Addr} {xs : List α} (h : SlA enc w A xs) (e : W.heap = w.heap) : SlA enc W A xs := fun j x hx => by
  obtain ⟨b, o, h1, h2, h3⟩ := h j x hx
  refine ⟨b, o, h1, by rw [e]; exact h2, ?_⟩
  unfold World.cell? at *
  rw [e]; exact h3
theorem guess_nums (X a D U V H L C : Nat) (hD : 1000000000 ≤ D) (hX : X * 1000000000 = H * 18446744073709551616 + L) (hL : L < 18446744073709551616) (ha : a ≤ 999999999)
    (hC : C = (L + a) / 18446744073709551616) (hV : V = (L + a) % 18446744073709551616) (hU : U = H + C) (hlt : X * 1000000000 + a < (D + 1) * 1000000000) :
    U * 18446744073709551616 + V = X * 1000000000 + a ∧ U < D ∧ C ≤ 1 := by omega
theorem guess_pack (X a D : Nat) (hX : X ≤ 999999999999999999) (hD : 1000000000 ≤ D) (ha : a ≤ 999999999) (hlt : X * 1000000000 + a < (D + 1) * 1000000000) :
    ∃ H L C V U, X * 1000000000 / 18446744073709551616 = H ∧ X * 1000000000 % 18446744073709551616 = L ∧ L < 18446744073709551616 ∧ (L + a) / 18446744073709551616 = C ∧ (L + a) % 18446744073709551616 = V ∧ V < 18446744073709551616 ∧ H + C = U ∧ H ≤ 999999999999999999 ∧
      U * 18446744073709551616 + V = X * 1000000000 + a ∧ U < D ∧ C ≤ 1 := by
  have hm := Nat.div_add_mod' (X * 1000000000) 18446744073709551616
  have hl : X * 1000000000 % 18446744073709551616 < 18446744073709551616 := Nat.mod_lt _ (by decide)
  obtain ⟨q1, q2, q3⟩ := guess_nums X a D (X * 1000000000 / 18446744073709551616 + (X * 1000000000 % 18446744073709551616 + a) / 18446744073709551616) ((X * 1000000000 % 18446744073709551616 + a) % 18446744073709551616) (X * 1000000000 / 18446744073709551616) (X * 1000000000 % 18446744073709551616) ((X * 1000000000 % 18446744073709551616 + a) / 18446744073709551616) hD hm.symm hl ha rfl rfl rfl hlt
  refine ⟨_, _, _, _, _, rfl, rfl, hl, rfl, rfl, Nat.mod_lt _ (by decide), rfl, ?_, q1, q2, q3⟩
  refine Nat.le_trans (Nat.div_le_div_right (Nat.mul_le_mul_right 1000000000 hX)) (by decide)
theorem mul64_g (x y H L : Nat) (hx : x < 18446744073709551616) (hy : y < 18446744073709551616) (hH : x * y / 18446744073709551616 = H) (hL : x * y % 18446744073709551616 = L) (w : World) :
    Calls Tryz.prog 179 #[.int .u64 x, .int .u64 y] w fun e w' => e = .returned (.tuple #[.int .u64 H, .int .u64 L]) ∧ w = w' := by
  subst hH hL; exact (Tryz.bits_Mul64 x y hx hy w).mono fun _ _ h => ⟨h.1, h.2.symm⟩
theorem mul64_B (x H L : Nat) (hx : x < 18446744073709551616) (hH : x * 1000000000 / 18446744073709551616 = H) (hL : x * 1000000000 % 18446744073709551616 = L) (w : World) :
    Calls Tryz.prog 179 #[.int .u64 x, .int .u64 1000000000] w fun e w' => e = .returned (.tuple #[.int .u64 H, .int .u64 L]) ∧ w = w' := by
  have h := mul64_g x 1000000000 H L hx (by decide) hH hL w
  have e : ((1000000000 : Nat) : Int) = 1000000000 := by first | simp | decide
  rw [e] at h
  exact h
set_option maxRecDepth 100000 in
set_option maxHeartbeats 400000 in
theorem guess_any (A B : Option Addr) (ca cb : Nat) (os ys : List Nat) (m n k : Nat) (hm : m = n + 1) (hn : n = k + 1) (hO : os.length = m) (hY : ys.length = n) (w : World) (hA : SlA encU w A os) (hB : SlA encU w B ys)
    (ho : ∀ d ∈ os, d < 1000000000) (hy : ∀ d ∈ ys, d < 1000000000) (u1 u0 v1 : Nat) (e1 : os[n]'(by omega) = u1) (e0 : os[k]'(by omega) = u0) (f1 : ys[k]'(by omega) = v1) (hv : 1 ≤ v1) (hk : k ≤ 1073741824) (hlt : (u1 * 1000000000 + u0) * 1000000000 + low os k < (v1 * 1000000000 + low ys k + 1) * 1000000000) :
    Calls Tryz.prog 168 #[.slice A m ca, .slice B n cb] w fun e w' => e = .returned (.int .u64 ((((u1 * 1000000000 + u0) * 1000000000 + low os k) / (v1 * 1000000000 + low ys k) : Nat) : Int)) ∧ ∃ dn, w' = w.drewN dn := by
  have hu1 : (u1 : Int) ≤ 999999999 := by have := ho _ (List.getElem_mem (l := os) (n := n) (by omega)); omega
  have hu0 : (u0 : Int) ≤ 999999999 := by have := ho _ (List.getElem_mem (l := os) (n := k) (by omega)); omega
  have hv1 : (v1 : Int) ≤ 999999999 := by have := hy _ (List.getElem_mem (l := ys) (n := k) (by omega)); omega
  have hv0 : 1 ≤ (v1 : Int) := by omega
  have LA : Hid (∀ W : World, W.heap = w.heap → Calls Tryz.prog 178 #[.slice A m ca, .int .i64 ((k : Int) - 1)] W fun e w' => e = .returned (.int .u32 ((low os k : Nat) : Int)) ∧ W = w') := fun W hW => by
    have := at_low A ca os W (hA.heap hW) k
    rwa [hO] at this
  have LB : Hid (∀ dn, Calls Tryz.prog 178 #[.slice B n cb, .int .i64 ((k : Int) - 1)] (w.drewN dn) fun e w' => e = .returned (.int .u32 ((low ys k : Nat) : Int)) ∧ w.drewN dn = w') := fun dn => by
    have := at_low B cb ys (w.drewN dn) (hB.heap rfl) k
    rwa [hY] at this
  have hla := low_lt os k ho
  have hlb := low_lt ys k hy
  obtain ⟨b1, o1, rfl, _, hc1⟩ := hA.all (by intro h; rw [h] at hO; simp at hO; omega)
  obtain ⟨b2, o2, rfl, _, hc2⟩ := hB.all (by intro h; rw [h] at hY; simp at hY; omega)
  have k1 := hc1 n (by omega)
  have k0 := hc1 k (by omega)
  have j1 := hc2 k (by omega)
  rw [e1] at k1
  rw [e0] at k0
  rw [f1] at j1
  unfold encU at k1 k0 j1
  generalize low os k = a at *
  generalize low ys k = b at *
  have ha' : (a : Int) ≤ 999999999 := by omega
  have hb' : (b : Int) ≤ 999999999 := by omega
  have hk' : (k : Int) ≤ 1073741824 := by omega
  obtain ⟨X, hX⟩ : ∃ X, u1 * 1000000000 + u0 = X := ⟨_, rfl⟩
  obtain ⟨D, hD⟩ : ∃ D, v1 * 1000000000 + b = D := ⟨_, rfl⟩
  have eX : (u1 : Int) * 1000000000 + (u0 : Int) = (X : Int) := by omega
  have eD : (v1 : Int) * 1000000000 + (b : Int) = (D : Int) := by omega
  have hXb : (X : Int) ≤ 999999999999999999 := by omega
  have hDb : (D : Int) ≤ 999999999999999999 := by omega
  rw [hX, hD] at hlt ⊢
  obtain ⟨H, L, C, V, U, hH, hL, hL1, hC, hV, hV1, hU, hH1, q1, q2, q3⟩ := guess_pack X a D (by omega) (by omega) (by omega) hlt
  have MU := Lib.hid (mul64_B X H L (by omega) hH hL)
  have AD := add64_run L a hL1 (by omega)
  rw [hC, hV] at AD
  have DV := Lib.hid (fun W => div64_any U V D q2 (by omega) (by omega) W)
  rw [q1] at DV
  have eU : (H : Int) + (C : Int) = (U : Int) := by omega
  have hHb : (H : Int) ≤ 999999999999999999 := by omega
  have hCb : (C : Int) ≤ 1 := by omega
  have hn1 : 0 ≤ (u1 : Int) := by omega
  have hn0 : 0 ≤ (u0 : Int) := by omega
  have hna : 0 ≤ (a : Int) := by omega
  have hnb : 0 ≤ (b : Int) := by omega
  have en1 : (n : Int) - 1 = (k : Int) := by omega
  have en2 : (n : Int) - 2 = (k : Int) - 1 := by omega
  have en3 : (k : Int) < (n : Int) := by omega
  have en4 : (k : Int) < (m : Int) := by omega
  have en5 : (n : Int) < (m : Int) := by omega
  have ek0 : (0 : Int) ≤ (k : Int) := by omega
  have en0 : (0 : Int) ≤ (n : Int) := by omega
  have enb : (n : Int) ≤ 1073741825 := by omega
  have ew2 : IntKind.i64.wrap ((k : Int) - 1) = (k : Int) - 1 := by simp [IntKind.wrap, IntKind.bits, IntKind.signed]; omega
  have ew : IntKind.i64.wrap (k : Int) = (k : Int) := by simp [IntKind.wrap, IntKind.bits, IntKind.signed]; omega
  clear hm hn hA hB ho hy hc1 hc2 hO hY e1 e0 f1 hla hlb hk hlt hX hD hH hL hL1 hC hV hV1 hU hH1 q1 q2 q3 hv
  go_enter Tryz.func168, Tryz.ntmps168
  go_wp2_with fail
  go_quiet ((go_at_call 178; exact Calls.quiet_of_same ((LB.out _).mono fun _ _ h => ⟨h.1, h.2.symm⟩)))
  go_wp2_with fail
  have wu1 : IntKind.u64.wrap (u1 : Int) = (u1 : Int) := Mul64.wrapN _ (by omega)
  have wu0 : IntKind.u64.wrap (u0 : Int) = (u0 : Int) := Mul64.wrapN _ (by omega)
  have wuB : IntKind.u64.wrap ((u1 : Int) * 1000000000) = (u1 : Int) * 1000000000 := by rw [IntKind.wrap_u64]; omega
  have wX : IntKind.u64.wrap (X : Int) = (X : Int) := Mul64.wrapN _ (by omega)
  have k1' : (w.drewN nq).cell? ⟨b1, o1 + n, none⟩ = some (.int .u32 (u1 : Int)) := k1
  have k0' : (w.drewN nq).cell? ⟨b1, o1 + k, none⟩ = some (.int .u32 (u0 : Int)) := k0
  have hh : (w.drewN nq).heap = w.heap := rfl
  have hq : ∃ dn, w.drewN dn = w.drewN nq := ⟨_, rfl⟩
  clear k1 k0 j1 LB
  generalize w.drewN nq = w1 at *
  have HH := Lib.hid hh
  have HQ := Lib.hid hq
  clear hh hq
  go_quiet ((go_at_call 179; exact Calls.quiet_of_same ((MU.out _).mono fun _ _ h => ⟨h.1, h.2.symm⟩)))
  go_wp2_with (first
    | (go_at_call 178; refine (LA.out _ ?_).mono ?_; (exact HH.out); rintro e w2 ⟨rfl, rfl⟩)
    | (go_at_call 181; refine (DV.out _).mono ?_; rintro e w3 ⟨r, rfl, dn, rfl⟩))
  go_ret
  refine ⟨rfl, ?_⟩
  obtain ⟨d0, h0⟩ := HQ.out
  exact ⟨d0 + (nq + dn), by rw [← h0]; simp⟩
end Go.Proofs.YtalejbabhjlehaaGreatDoor
/- The walks of layer 1: taking a multiple of the divisor off a part of the rest. -/
namespace Go.Proofs.YtalejbabhjlehaaGreatDoor
open Go Go.RowKit
def Only (g : Nat) (w w' : World) : Prop := ∀ b, b ≠ g → w'.heap[b]? = w.heap[b]?
theorem Only.refl (g : Nat) (w : World) : Only g w w := fun _ _ => rfl
theorem Only.setCell {g : Nat} {w w' : World} (h : Only g w w') (o : Nat) (v : Value) : Only g w (w'.setCell ⟨g, o, none⟩ v) := fun b hb => (Below.heap_setCell w' ⟨g, o, none⟩ v b hb).trans (h b hb)
def TkInv (p0 ys : List Nat) (t : Nat) (p : List Nat) (k c : Nat) : Prop :=
  p.length = p0.length ∧ (∀ j, p.getD j 0 < 1000000000) ∧ (∀ j, k ≤ j → p.getD j 0 = p0.getD j 0) ∧
    vl 1000000000 (p.take k) + t * vl 1000000000 (ys.take k) = vl 1000000000 (p0.take k) + 1000000000 ^ k * c ∧ c ≤ 1000000001
theorem TkInv.start (p0 ys : List Nat) (t : Nat) (h : ∀ j, p0.getD j 0 < 1000000000) : TkInv p0 ys t p0 0 0 :=
  ⟨rfl, h, fun _ _ => rfl, by simp [vl], by omega⟩
theorem tk_ring (B A t Y P T c new x y g q δ : Nat) (h : A + t * Y = P + T * c) (h1 : x + B * δ = g + new) (h2 : c + t * y = g + B * q) :
    A + T * new + t * (Y + T * y) = P + T * x + T * B * (q + δ) := by grind
theorem TkInv.step {p0 ys p : List Nat} {t k c : Nat} (h : TkInv p0 ys t p k c) (hk : k < p0.length) (ht : t ≤ 1000000000) (hy : ys.getD k 0 < 1000000000) (new δ : Nat) (hδ : δ ≤ 1)
    (hn : p.getD k 0 + 1000000000 * δ = (c + t * ys.getD k 0) % 1000000000 + new) (hb : new < 1000000000) :
    TkInv p0 ys t (p.set k new) (k + 1) ((c + t * ys.getD k 0) / 1000000000 + δ) := by
  obtain ⟨h1, h2, h3, h4, h5⟩ := h
  have h2k : t * ys.getD k 0 ≤ 1000000000 * 999999999 := Nat.mul_le_mul ht (by omega)
  refine ⟨by simpa using h1, fun j => ?_, fun j hj => ?_, ?_, by omega⟩
  · rw [getD_set]; split
    · exact hb
    · exact h2 j
  · rw [getD_set, if_neg (by omega)]; exact h3 j (by omega)
  · rw [vl_take_succ, vl_take_succ, vl_take_succ, Nat.pow_succ, List.take_set_of_le (Nat.le_refl k), getD_set, if_pos ⟨rfl, by omega⟩, ← h3 k (Nat.le_refl k)]
    exact tk_ring 1000000000 _ t _ _ _ c new _ _ _ _ δ h4 hn (by rw [Nat.mod_add_div])
theorem set_mid (pre p post : List Nat) (k v : Nat) (hk : k < p.length) : (pre ++ p ++ post).set (pre.length + k) v = pre ++ p.set k v ++ post := by
  rw [List.append_assoc, List.set_append_right _ _ (by omega), Nat.add_sub_cancel_left, List.set_append_left _ _ hk, List.append_assoc]
theorem getD_mid (pre p post : List Nat) (k : Nat) (hk : k < p.length) : (pre ++ p ++ post).getD (pre.length + k) 0 = p.getD k 0 := by
  simp only [List.getD_eq_getElem?_getD]
  rw [List.append_assoc, List.getElem?_append_right (by omega), Nat.add_sub_cancel_left, List.getElem?_append_left hk]
set_option maxRecDepth 100000 in
set_option maxHeartbeats 800000 in
theorem take_any (base g L cap m cp : Nat) (pre p0 post ys : List Nat) (hm : p0.length = m) (B : Option Addr) (cb t : Nat) (ht : t ≤ 1000000000) (w : World) (hg : base ≤ g) (hm1 : m ≤ 1073741825) (hi1 : pre.length ≤ 1073741825)
    (hown : w.ownsRow base 117 1 (.slice (some ⟨g, 0, none⟩) L cap) L ((pre ++ p0 ++ post).map encU)) (hB : ∀ W, Below base w W → SlA encU W B ys) (hy : ∀ d ∈ ys, d < 1000000000) (hp : ∀ j, p0.getD j 0 < 1000000000) :
    Calls Tryz.prog 169 #[.slice (some ⟨g, pre.length, none⟩) m cp, .slice B ys.length cb, .int .u64 t] w fun e w' => ∃ p c, e = .returned (.bool (decide (0 < c))) ∧
      w'.ownsRow base 117 1 (.slice (some ⟨g, 0, none⟩) L cap) L ((pre ++ p ++ post).map encU) ∧ TkInv p0 ys t p m c ∧ Below base w w' ∧ Only g w w' := by
  have HY := Lib.hid (getD_lt 1000000000 ys hy (by omega))
  have HS := Lib.hid (TkInv.start p0 ys t hp)
  have htt : (t : Int) ≤ 1000000000 := by omega
  have hmm : (m : Int) ≤ 1073741825 := by omega
  have hii : (pre.length : Int) ≤ 1073741825 := by omega
  clear hy hp
  go_enter Tryz.func169, Tryz.ntmps169
  go_wp2
  go_loopw [7, 12] (fun cy i wr => ∃ (k c : Nat) (p : List Nat), k ≤ m ∧ i = .int .i64 k ∧ cy = .int .u64 c ∧ wr.ownsRow base 117 1 (.slice (some ⟨g, 0, none⟩) L cap) L ((pre ++ p ++ post).map encU) ∧ Hid (TkInv p0 ys t p k c) ∧ Below base w wr ∧ Only g w wr) (fun _ i _ => m - (intOf i).toNat)
  case atStart => exact ⟨0, 0, p0, by omega, rfl, rfl, hown, HS, Below.refl _ _, Only.refl _ _⟩
  case round =>
    clear hown HS
    obtain ⟨k, c, p, hk, rfl, rfl, hown, hinv, hbel, hon⟩ := hrel
    by_cases hkm : k < m
    · have hkl : k < p.length := by have := hinv.out.1; omega
      have HI := Lib.hid (hinv.out.step (by omega) ht (HY.out k))
      have hc5 := hinv.out.2.2.2.2
      have hx := hinv.out.2.1 k
      have hy := HY.out k
      have TA := Lib.hid (mat_any B cb ys wr (hB wr hbel) k)
      have hcell := own_cellU hown (pre.length + k) (by simp; omega)
      rw [getD_mid _ _ _ _ hkl] at hcell
      have hfr := hown.frozenAt (pre.length + k)
      have HOW : Hid (∀ v : Nat, ∀ z : Int, (v : Int) = z → (wr.setCell ⟨g, pre.length + k, none⟩ (.int .u32 z)).ownsRow base 117 1 (.slice (some ⟨g, 0, none⟩) L cap) L ((pre ++ p.set k v ++ post).map encU)) := fun v z hz => by
        have := own_setU hown (pre.length + k) v hz
        rwa [set_mid _ _ _ _ _ hkl] at this
      have HOX : Hid (∀ u v : Nat, ∀ y z : Int, (u : Int) = y → (v : Int) = z → ((wr.setCell ⟨g, pre.length + k, none⟩ (.int .u32 y)).setCell ⟨g, pre.length + k, none⟩ (.int .u32 z)).ownsRow base 117 1 (.slice (some ⟨g, 0, none⟩) L cap) L ((pre ++ p.set k v ++ post).map encU)) := fun u v y z hy hz => by
        have := own_setU (own_setU hown (pre.length + k) u hy) (pre.length + k) v hz
        rwa [List.set_set, set_mid _ _ _ _ _ hkl] at this
      clear hinv hown
      generalize p.getD k 0 = x at *
      generalize ys.getD k 0 = y at *
      have hty : t * y ≤ 1000000000 * 999999999 := Nat.mul_le_mul ht (by omega)
      obtain ⟨P, hP⟩ : ∃ P, t * y = P := ⟨_, rfl⟩
      rw [hP] at HI hty
      have eP : (t : Int) * (y : Int) = (P : Int) := by rw [← hP, Int.natCast_mul]
      obtain ⟨G, hG⟩ : ∃ G, (c + P) % 1000000000 = G := ⟨_, rfl⟩
      obtain ⟨q, hq⟩ : ∃ q, (c + P) / 1000000000 = q := ⟨_, rfl⟩
      rw [hG, hq] at HI
      have eG : ((c : Int) + (P : Int)) % 1000000000 = (G : Int) := by omega
      have eq : ((c : Int) + (P : Int)) / 1000000000 = (q : Int) := by omega
      have c1 : (c : Int) ≤ 1000000001 := by omega
      have c2 : (P : Int) ≤ 999999999000000000 := by omega
      have c3 : (G : Int) ≤ 999999999 := by omega
      have c4 : (q : Int) ≤ 1000000001 := by omega
      have c5 : (x : Int) ≤ 999999999 := by omega
      have c6 : (y : Int) ≤ 999999999 := by omega
      have c7 : (k : Int) < (m : Int) := by omega
      have c8 : (0 : Int) ≤ (k : Int) := by omega
      have c9 : ((k : Int)).toNat = k := by omega
      clear hx hy hty hP hG hq hc5
      by_cases hxg : x < G
      · have hxg' : (x : Int) < (G : Int) := by omega
        have HI2 := Lib.hid (HI.out (x + 1000000000 - G) 1 (by omega) (by omega) (by omega))
        have HO2 := Lib.hid (HOX.out (x + 1000000000) (x + 1000000000 - G) ((x : Int) + 1000000000) ((x : Int) + 1000000000 - (G : Int)) (by omega) (by omega))
        clear HI HOW HOX hxg
        go_wp2_with (go_at_call 178; refine TA.out.mono ?_; rintro e w' ⟨rfl, rfl⟩)
        go_roundw
        case rel => exact ⟨k + 1, q + 1, _, by omega, by go_num, by go_num, HO2.out, HI2, (hbel.setCell (p := ⟨g, pre.length + k, none⟩) hg _).setCell (p := ⟨g, pre.length + k, none⟩) hg _, (hon.setCell _ _).setCell _ _⟩
        case measure => simp [intOf]; omega
      · have hxg' : ¬ (x : Int) < (G : Int) := by omega
        have hxg2 : (G : Int) ≤ (x : Int) := by omega
        have HI2 := Lib.hid (HI.out (x - G) 0 (by omega) (by omega) (by omega))
        have HO2 := Lib.hid (HOW.out (x - G) ((x : Int) - (G : Int)) (by omega))
        clear HI HOW HOX hxg
        go_wp2_with (go_at_call 178; refine TA.out.mono ?_; rintro e w' ⟨rfl, rfl⟩)
        go_roundw
        case rel => exact ⟨k + 1, q, _, by omega, by go_num, int_eq (by omega), HO2.out, HI2, hbel.setCell (p := ⟨g, pre.length + k, none⟩) hg _, hon.setCell _ _⟩
        case measure => simp [intOf]; omega
    · obtain rfl : k = m := by omega
      have c1 : (c : Int) ≤ 1000000001 := by have := hinv.out.2.2.2.2; omega
      have HOW := Lib.hid hown
      clear hown
      go_wp2
      go_ret
      exact ⟨p, c, ret_bool (by simp), HOW.out, hinv.out, hbel, hon⟩
end Go.Proofs.YtalejbabhjlehaaGreatDoor
/- The walks of layer 1: giving the divisor back to a part of the rest. -/
namespace Go.Proofs.YtalejbabhjlehaaGreatDoor
open Go Go.RowKit
def RsInv (p0 ys p : List Nat) (k c : Nat) : Prop :=
  p.length = p0.length ∧ (∀ j, p.getD j 0 < 1000000000) ∧ (∀ j, k ≤ j → p.getD j 0 = p0.getD j 0) ∧
    vl 1000000000 (p.take k) + 1000000000 ^ k * c = vl 1000000000 (p0.take k) + vl 1000000000 (ys.take k) ∧ c ≤ 1
theorem RsInv.start (p0 ys : List Nat) (h : ∀ j, p0.getD j 0 < 1000000000) : RsInv p0 ys p0 0 0 :=
  ⟨rfl, h, fun _ _ => rfl, by simp [vl], by omega⟩
theorem rs_ring (B A Y P T c s x y n q : Nat) (h : A + T * c = P + Y) (h1 : s = c + (x + y)) (h2 : n + B * q = s) :
    A + T * n + T * B * q = P + T * x + (Y + T * y) := by subst h1; grind
theorem RsInv.step {p0 ys p : List Nat} {k c : Nat} (h : RsInv p0 ys p k c) (hk : k < p0.length) (hy : ys.getD k 0 < 1000000000) :
    RsInv p0 ys (p.set k ((c + (p.getD k 0 + ys.getD k 0)) % 1000000000)) (k + 1) ((c + (p.getD k 0 + ys.getD k 0)) / 1000000000) := by
  obtain ⟨h1, h2, h3, h4, h5⟩ := h
  have hx := h2 k
  refine ⟨by simpa using h1, fun j => ?_, fun j hj => ?_, ?_, by omega⟩
  · rw [getD_set]; split
    · omega
    · exact h2 j
  · rw [getD_set, if_neg (by omega)]; exact h3 j (by omega)
  · rw [vl_take_succ, vl_take_succ, vl_take_succ, Nat.pow_succ, List.take_set_of_le (Nat.le_refl k), getD_set, if_pos ⟨rfl, by omega⟩, ← h3 k (Nat.le_refl k)]
    exact rs_ring 1000000000 _ _ _ _ c _ _ _ _ _ h4 rfl (Nat.mod_add_div _ _)
set_option maxRecDepth 100000 in
set_option maxHeartbeats 800000 in
theorem restore_any (base g L cap m cp : Nat) (pre p0 post ys : List Nat) (hm : p0.length = m) (B : Option Addr) (cb : Nat) (w : World) (hg : base ≤ g) (hm1 : m ≤ 1073741825) (hi1 : pre.length ≤ 1073741825)
    (hown : w.ownsRow base 117 1 (.slice (some ⟨g, 0, none⟩) L cap) L ((pre ++ p0 ++ post).map encU)) (hB : ∀ W, Below base w W → SlA encU W B ys) (hy : ∀ d ∈ ys, d < 1000000000) (hp : ∀ j, p0.getD j 0 < 1000000000) :
    Calls Tryz.prog 170 #[.slice (some ⟨g, pre.length, none⟩) m cp, .slice B ys.length cb] w fun e w' => ∃ p c, e = .returned (.tuple #[]) ∧
      w'.ownsRow base 117 1 (.slice (some ⟨g, 0, none⟩) L cap) L ((pre ++ p ++ post).map encU) ∧ RsInv p0 ys p m c ∧ Below base w w' ∧ Only g w w' := by
  have HY := Lib.hid (getD_lt 1000000000 ys hy (by omega))
  have HS := Lib.hid (RsInv.start p0 ys hp)
  have hmm : (m : Int) ≤ 1073741825 := by omega
  have hii : (pre.length : Int) ≤ 1073741825 := by omega
  clear hy hp
  go_enter Tryz.func170, Tryz.ntmps170
  go_wp2
  go_loopw [4, 8] (fun cy i wr => ∃ (k c : Nat) (p : List Nat), k ≤ m ∧ i = .int .i64 k ∧ cy = .int .u32 c ∧ wr.ownsRow base 117 1 (.slice (some ⟨g, 0, none⟩) L cap) L ((pre ++ p ++ post).map encU) ∧ Hid (RsInv p0 ys p k c) ∧ Below base w wr ∧ Only g w wr) (fun _ i _ => m - (intOf i).toNat)
  case atStart => exact ⟨0, 0, p0, by omega, rfl, rfl, hown, HS, Below.refl _ _, Only.refl _ _⟩
  case round =>
    clear hown HS
    obtain ⟨k, c, p, hk, rfl, rfl, hown, hinv, hbel, hon⟩ := hrel
    by_cases hkm : k < m
    · have hkl : k < p.length := by have := hinv.out.1; omega
      have HI := Lib.hid (hinv.out.step (by omega) (HY.out k))
      have hc5 := hinv.out.2.2.2.2
      have hx := hinv.out.2.1 k
      have hy := HY.out k
      have TA := Lib.hid (fun dn => mat_any B cb ys (wr.drewN dn) (hB _ (below_drewN hbel dn)) k)
      have hcell := own_cellU hown (pre.length + k) (by simp; omega)
      rw [getD_mid _ _ _ _ hkl] at hcell
      generalize p.getD k 0 = x at *
      generalize ys.getD k 0 = y at *
      obtain ⟨G, hG⟩ : ∃ G, (c + (x + y)) % 1000000000 = G := ⟨_, rfl⟩
      obtain ⟨q, hq⟩ : ∃ q, (c + (x + y)) / 1000000000 = q := ⟨_, rfl⟩
      rw [hG, hq] at HI
      have eG : ((c : Int) + ((x : Int) + (y : Int))) % 1000000000 = (G : Int) := by omega
      have eq : ((c : Int) + ((x : Int) + (y : Int))) / 1000000000 = (q : Int) := by omega
      have c1 : (c : Int) ≤ 1 := by omega
      have c3 : (G : Int) ≤ 999999999 := by omega
      have c4 : (q : Int) ≤ 2 := by omega
      have c5 : (x : Int) ≤ 999999999 := by omega
      have c6 : (y : Int) ≤ 999999999 := by omega
      have c7 : (k : Int) < (m : Int) := by omega
      have c8 : (0 : Int) ≤ (k : Int) := by omega
      have c9 : ((k : Int)).toNat = k := by omega
      clear hx hy hG hq hc5 hinv
      go_wp2_with fail
      go_quiet ((go_at_call 178; exact Calls.quiet_of_same ((TA.out _).mono fun _ _ h => ⟨h.1, h.2.symm⟩)))
      have hownD : (wr.drewN nq).ownsRow base 117 1 (.slice (some ⟨g, 0, none⟩) L cap) L ((pre ++ p ++ post).map encU) := hown
      have hbelD : Below base w (wr.drewN nq) := below_drewN hbel nq
      have honD : Only g w (wr.drewN nq) := hon
      have hcellD : (wr.drewN nq).cell? ⟨g, pre.length + k, none⟩ = some (.int .u32 (x : Int)) := hcell
      clear hown hbel hcell hon TA
      generalize wr.drewN nq = wq at *
      have hfr := hownD.frozenAt (pre.length + k)
      have HOW : Hid (∀ v : Nat, ∀ z : Int, (v : Int) = z → (wq.setCell ⟨g, pre.length + k, none⟩ (.int .u32 z)).ownsRow base 117 1 (.slice (some ⟨g, 0, none⟩) L cap) L ((pre ++ p.set k v ++ post).map encU)) := fun v z hz => by
        have := own_setU hownD (pre.length + k) v hz
        rwa [set_mid _ _ _ _ _ hkl] at this
      clear hownD
      go_wp2
      go_roundw
      case rel => exact ⟨k + 1, q, _, by omega, by go_num, int_eq (by omega), HOW.out G _ (by omega), HI, hbelD.setCell (p := ⟨g, pre.length + k, none⟩) hg _, honD.setCell _ _⟩
      case measure => simp [intOf]; omega
    · obtain rfl : k = m := by omega
      have HOW := Lib.hid hown
      clear hown
      go_wp2
      go_end0
      exact ⟨p, c, rfl, HOW.out, hinv.out, hbel, hon⟩
end Go.Proofs.YtalejbabhjlehaaGreatDoor
/- The walks of layer 1: the arithmetic of one group of a quotient. -/
namespace Go.Proofs.YtalejbabhjlehaaGreatDoor
open Go Go.RowKit
theorem guess_bound (B T r s U V2 P V : Nat) (hT : 0 < T) (hP : P = r + T * U) (hV : V = s + T * V2) (hr : r < T) (hs : s < T) (hB : B ≤ V2) (hB0 : 0 < B) (hlt : P < V * B) :
    U < (V2 + 1) * B ∧ P / V ≤ U / V2 ∧ U / V2 ≤ P / V + 1 ∧ P / V < B := by
  have hV2 : 0 < V2 := by omega
  have hV0 : 0 < V := by
    have : 0 < T * V2 := Nat.mul_pos hT hV2
    omega
  have hq : P / V < B := by rw [Nat.div_lt_iff_lt_mul hV0, Nat.mul_comm]; exact hlt
  have hq1 : P / V * V ≤ P := Nat.div_mul_le_self P V
  have hq2 : P < (P / V + 1) * V := by
    have := Nat.div_add_mod P V
    have h2 := Nat.mod_lt P hV0
    rw [Nat.add_mul, Nat.one_mul, Nat.mul_comm]
    omega
  generalize P / V = q at *
  have hVle : V ≤ T * (V2 + 1) := by rw [Nat.mul_add]; omega
  have a1 : T * U < T * ((V2 + 1) * B) := by
    have : V * B ≤ T * (V2 + 1) * B := Nat.mul_le_mul_right _ hVle
    rw [Nat.mul_assoc] at this
    omega
  have a2 : U < (V2 + 1) * B := Nat.lt_of_mul_lt_mul_left a1
  have a3 : T * (q * V2) < T * (U + 1) := by
    have h1 : q * (T * V2) ≤ q * V := Nat.mul_le_mul_left _ (by omega)
    have h2 : q * (T * V2) = T * (q * V2) := by grind
    rw [Nat.mul_add T U 1]
    omega
  have a4 : q * V2 < U + 1 := Nat.lt_of_mul_lt_mul_left a3
  have a5 : T * U < T * ((q + 1) * (V2 + 1)) := by
    have h1 : (q + 1) * V ≤ (q + 1) * (T * (V2 + 1)) := Nat.mul_le_mul_left _ hVle
    have h2 : (q + 1) * (T * (V2 + 1)) = T * ((q + 1) * (V2 + 1)) := by grind
    omega
  have a6 : U < (q + 1) * (V2 + 1) := Nat.lt_of_mul_lt_mul_left a5
  refine ⟨a2, (Nat.le_div_iff_mul_le hV2).2 (by omega), ?_, hq⟩
  have : U / V2 < q + 2 := by
    rw [Nat.div_lt_iff_lt_mul hV2]
    have e1 : (q + 2) * V2 = (q + 1) * V2 + V2 := by grind
    have e2 : (q + 1) * (V2 + 1) = (q + 1) * V2 + (q + 1) := by grind
    omega
  omega
theorem take_ok (M P V q t p c : Nat) (h : p + t * V = P + M * c) (hp : p < M) (hq : q = P / V) (ht : t = q) : c = 0 ∧ p = P - q * V := by
  subst ht
  have h1 : t * V ≤ P := by rw [hq]; exact Nat.div_mul_le_self P V
  rcases Nat.eq_zero_or_pos c with rfl | h0
  · exact ⟨rfl, by rw [Nat.mul_zero] at h; omega⟩
  · have : M * 1 ≤ M * c := Nat.mul_le_mul_left _ h0
    omega
theorem take_over (M P V q t p c : Nat) (h : p + t * V = P + M * c) (hV : 0 < V) (hVM : V < M) (hp : p < M) (hq : q = P / V) (ht : t = q + 1) : c = 1 ∧ ∀ p' c', p' + M * c' = p + V → p' < M → p' = P - q * V := by
  have h1 : q * V ≤ P := by rw [hq]; exact Nat.div_mul_le_self P V
  have h2 : P < q * V + V := by
    have := Nat.div_add_mod P V
    have h2 := Nat.mod_lt P hV
    rw [← hq, Nat.mul_comm] at this
    omega
  rw [ht, Nat.add_mul, Nat.one_mul] at h
  have hc : c = 1 := by
    match c with
    | 0 => rw [Nat.mul_zero] at h; omega
    | 1 => rfl
    | c + 2 =>
      have : M * (c + 2) = M * c + M + M := by grind
      omega
  subst hc
  rw [Nat.mul_one] at h
  refine ⟨rfl, fun p' c' h3 h4 => ?_⟩
  match c' with
  | 0 => rw [Nat.mul_zero] at h3; omega
  | 1 => rw [Nat.mul_one] at h3; omega
  | c + 2 =>
    have : M * (c + 2) = M * c + M + M := by grind
    omega
end Go.Proofs.YtalejbabhjlehaaGreatDoor
/- The walks of layer 1: what the guess is worth. -/
namespace Go.Proofs.YtalejbabhjlehaaGreatDoor
open Go Go.RowKit
theorem top3 (B a T x y z : Nat) : a + T * x + T * B * y + T * B * B * z = a + T * ((z * B + y) * B + x) := by grind
theorem top2 (B a T x y : Nat) : a + T * x + T * B * y = a + T * (y * B + x) := by grind
theorem vl_take_lt (B : Nat) (xs : List Nat) (h : ∀ d ∈ xs, d < B) (j : Nat) (hj : j ≤ xs.length) : vl B (xs.take j) < B ^ j := by
  have := vl_lt B (xs.take j) (fun d hd => h d (List.mem_of_mem_take hd))
  rwa [List.length_take, Nat.min_eq_left hj] at this
theorem vl_top3 (B : Nat) (p : List Nat) (j : Nat) (hl : p.length = j + 3) : vl B p = vl B (p.take j) + B ^ j * ((p.getD (j + 2) 0 * B + p.getD (j + 1) 0) * B + p.getD j 0) := by
  have e : vl B p = vl B (p.take (j + 3)) := by rw [List.take_of_length_le (by omega)]
  rw [e, vl_take_succ, vl_take_succ, vl_take_succ, Nat.pow_succ B (j + 1), Nat.pow_succ B j]
  exact top3 B _ _ _ _ _
theorem vl_top2 (B : Nat) (p : List Nat) (j : Nat) (hl : p.length = j + 2) : vl B p = vl B (p.take j) + B ^ j * (p.getD (j + 1) 0 * B + p.getD j 0) := by
  have e : vl B p = vl B (p.take (j + 2)) := by rw [List.take_of_length_le (by omega)]
  rw [e, vl_take_succ, vl_take_succ, Nat.pow_succ B j]
  exact top2 B _ _ _ _
theorem vl_top1 (B : Nat) (p : List Nat) (hl : p.length = 1) : vl B p = p.getD 0 0 := by
  have e : vl B p = vl B (p.take 1) := by rw [List.take_of_length_le (by omega)]
  rw [e, vl_take_succ]; simp [vl]
theorem guess_one (B P V : Nat) (hB : 0 < B) (hV : 0 < V) (hlt : P < V * B) : P * B < (V * B + 1) * B ∧ P / V ≤ P * B / (V * B) ∧ P * B / (V * B) ≤ P / V + 1 ∧ P / V < B := by
  rw [Nat.mul_div_mul_right _ _ hB]
  refine ⟨?_, Nat.le_refl _, by omega, ?_⟩
  · have : P * B < V * B * B := Nat.mul_lt_mul_of_pos_right hlt hB
    have h2 : V * B * B ≤ (V * B + 1) * B := Nat.mul_le_mul_right _ (by omega)
    omega
  · rw [Nat.div_lt_iff_lt_mul hV, Nat.mul_comm]; exact hlt
theorem guess_okB (B : Nat) (hB : 0 < B) (p ys : List Nat) (k : Nat) (hp : p.length = k + 2) (hy : ys.length = k + 1) (hpb : ∀ d ∈ p, d < B) (hyb : ∀ d ∈ ys, d < B) (hv : 1 ≤ ys.getD k 0) (hlt : vl B p < vl B ys * B) :
    (p.getD (k + 1) 0 * B + p.getD k 0) * B + low p k < (ys.getD k 0 * B + low ys k + 1) * B ∧
    vl B p / vl B ys ≤ ((p.getD (k + 1) 0 * B + p.getD k 0) * B + low p k) / (ys.getD k 0 * B + low ys k) ∧
    ((p.getD (k + 1) 0 * B + p.getD k 0) * B + low p k) / (ys.getD k 0 * B + low ys k) ≤ vl B p / vl B ys + 1 ∧
    vl B p / vl B ys < B := by
  cases k with
  | zero =>
    have e1 := vl_top2 B p 0 hp
    have e2 := vl_top1 B ys hy
    simp only [List.take_zero, vl, Nat.pow_zero, Nat.one_mul, Nat.zero_add] at e1 ⊢
    have l1 : low p 0 = 0 := by simp [low]
    have l2 : low ys 0 = 0 := by simp [low]
    rw [l1, l2, Nat.add_zero, Nat.add_zero, ← e2, ← e1]
    exact guess_one B _ _ hB (by omega) hlt
  | succ j =>
    have e1 := vl_top3 B p j hp
    have e2 := vl_top2 B ys j hy
    have l1 : low p (j + 1) = p.getD j 0 := by simp [low]
    have l2 : low ys (j + 1) = ys.getD j 0 := by simp [low]
    have b1 := vl_take_lt B p hpb j (by omega)
    have b2 := vl_take_lt B ys hyb j (by omega)
    rw [l1, l2]
    exact guess_bound B (B ^ j) _ _ _ _ _ _ (Nat.pow_pos hB) e1 e2 b1 b2 (by have : 1 * B ≤ ys.getD (j + 1) 0 * B := Nat.mul_le_mul_right _ hv; omega) hB hlt
end Go.Proofs.YtalejbabhjlehaaGreatDoor
/- The walks of layer 1: the invariant of the division of magnitudes, over any base. -/
namespace Go.Proofs.YtalejbabhjlehaaGreatDoor
open Go Go.RowKit
structure DvInv (B X V : Nat) (rs qs : List Nat) (j : Nat) : Prop where
  rlt : ∀ d ∈ rs, d < B
  sum : vl B rs + V * vl B qs = X
  lt : vl B rs < V * B ^ j
  zero : ∀ t, t < j → qs.getD t 0 = 0
theorem DvInv.part {B X V : Nat} {pre p post qs : List Nat} {i : Nat} (hB : 0 < B) (h : DvInv B X V (pre ++ p ++ post) qs (i + 1)) (hi : pre.length = i) (hV : V < B ^ (p.length - 1)) (hp : 1 ≤ p.length) :
    vl B p < V * B ∧ vl B post = 0 := by
  have hl := h.lt
  rw [List.append_assoc, vl_append, vl_append, hi, Nat.pow_succ] at hl
  have hT : 0 < B ^ i := Nat.pow_pos hB
  have h1 : B ^ i * (vl B p + B ^ p.length * vl B post) < B ^ i * (V * B) := by
    have : V * (B ^ i * B) = B ^ i * (V * B) := by grind
    omega
  have h2 := Nat.lt_of_mul_lt_mul_left h1
  have h3 : vl B post = 0 := by
    rcases Nat.eq_zero_or_pos (vl B post) with h0 | h0
    · exact h0
    · have a : B ^ p.length * 1 ≤ B ^ p.length * vl B post := Nat.mul_le_mul_left _ h0
      have b : V * B ≤ B ^ (p.length - 1) * B := Nat.mul_le_mul_right _ (by omega)
      rw [← Nat.pow_succ, show (p.length - 1).succ = p.length by omega] at b
      omega
  rw [h3, Nat.mul_zero, Nat.add_zero] at h2
  exact ⟨h2, h3⟩
theorem DvInv.step {B X V : Nat} {pre p post qs : List Nat} {i : Nat} (hV : 0 < V) (h : DvInv B X V (pre ++ p ++ post) qs (i + 1)) (hi : pre.length = i) (h0 : vl B post = 0) (hq : i < qs.length)
    (p' : List Nat) (hb : ∀ d ∈ p', d < B) (hv : vl B p' = vl B p - vl B p / V * V) :
    DvInv B X V (pre ++ p' ++ post) (qs.set i (vl B p / V)) i := by
  have hz := h.zero i (by omega)
  have hs := h.sum
  have hdm := Nat.div_add_mod (vl B p) V
  have hml := Nat.mod_lt (vl B p) hV
  have hpre : vl B pre < B ^ i := by rw [← hi]; exact vl_lt B pre (fun d hd => h.rlt d (by simp [hd]))
  have hset := vl_set B qs i (vl B p / V) hq
  rw [hz, Nat.mul_zero, Nat.add_zero] at hset
  rw [Nat.mul_comm] at hdm
  have hv' : vl B p' = vl B p % V := by omega
  refine ⟨fun d hd => ?_, ?_, ?_, fun t ht => ?_⟩
  · simp only [List.mem_append] at hd
    rcases hd with (hd | hd) | hd
    · exact h.rlt d (by simp [hd])
    · exact hb d hd
    · exact h.rlt d (by simp [hd])
  · rw [List.append_assoc, vl_append, vl_append, h0, Nat.mul_zero, Nat.add_zero, hi] at hs ⊢
    rw [hset, hv']
    generalize vl B p / V = q at *
    generalize vl B p % V = r at *
    generalize B ^ i = T at *
    rw [← hdm] at hs
    grind
  · rw [List.append_assoc, vl_append, vl_append, h0, Nat.mul_zero, Nat.add_zero, hi, hv']
    generalize vl B p % V = r at *
    generalize B ^ i = T at *
    have h1 : T * (r + 1) ≤ T * V := Nat.mul_le_mul_left _ hml
    rw [Nat.mul_add, Nat.mul_one, Nat.mul_comm T V] at h1
    omega
  · rw [getD_set, if_neg (by omega)]; exact h.zero t (by omega)
theorem vl_ge (B : Nat) (ys : List Nat) (h0 : ys ≠ []) (ht : ys.getD (ys.length - 1) 0 ≠ 0) : B ^ (ys.length - 1) ≤ vl B ys := by
  obtain ⟨zs, q, rfl⟩ : ∃ zs q, ys = zs ++ [q] := ⟨_, _, (List.dropLast_concat_getLast h0).symm⟩
  have hl : (zs ++ [q]).length - 1 = zs.length := by simp
  rw [hl] at ht ⊢
  have e : (zs ++ [q]).getD zs.length 0 = q := by simp [List.getD_eq_getElem?_getD]
  rw [e] at ht
  rw [vl_snoc]
  have : B ^ zs.length * 1 ≤ B ^ zs.length * q := Nat.mul_le_mul_left _ (by omega)
  omega
theorem DvInv.start (B V N : Nat) (hB : 0 < B) (xs ys : List Nat) (hx : ∀ d ∈ xs, d < B) (hy : B ^ (ys.length - 1) ≤ V) (hN : xs.length ≤ ys.length - 1 + N) : DvInv B (vl B xs) V (xs ++ [0]) (List.replicate N 0) N := by
  have e : vl B (xs ++ [0]) = vl B xs := by rw [vl_snoc]; simp
  refine ⟨fun d hd => ?_, ?_, ?_, fun t _ => ?_⟩
  · simp only [List.mem_append, List.mem_singleton] at hd
    rcases hd with hd | rfl
    · exact hx d hd
    · exact hB
  · rw [e, vl_zeros, Nat.mul_zero, Nat.add_zero]
  · rw [e]
    have h1 := vl_lt B xs hx
    have h2 : B ^ xs.length ≤ B ^ (ys.length - 1 + N) := Nat.pow_le_pow_right hB hN
    have h3 : B ^ (ys.length - 1) * B ^ N ≤ V * B ^ N := Nat.mul_le_mul_right _ hy
    rw [← Nat.pow_add] at h3
    omega
  · exact zeros_getD N t
theorem DvInv.last {B X V : Nat} {rs qs : List Nat} (h : DvInv B X V rs qs 0) : vl B qs = X / V ∧ vl B rs = X % V := by
  have h1 := h.sum
  have h2 := h.lt
  rw [Nat.pow_zero, Nat.mul_one] at h2
  have e : X = vl B rs + vl B qs * V := by rw [← h1, Nat.mul_comm]
  constructor
  · rw [e, Nat.add_mul_div_right _ _ (by omega), Nat.div_eq_of_lt h2, Nat.zero_add]
  · rw [e, Nat.add_mul_mod_self_right, Nat.mod_eq_of_lt h2]
theorem part_split (rs : List Nat) (i m : Nat) (h : i + m ≤ rs.length) : rs = rs.take i ++ (rs.drop i).take m ++ rs.drop (i + m) ∧ (rs.take i).length = i ∧ ((rs.drop i).take m).length = m := by
  refine ⟨?_, by simp; omega, by simp; omega⟩
  rw [List.append_assoc, ← List.drop_drop, List.take_append_drop, List.take_append_drop]
theorem SlA.part {w : World} {base e g n : Nat} {pre p post : List Nat} (h : w.ownsRow base e 1 (.slice (some ⟨g, 0, none⟩) n n) n ((pre ++ p ++ post).map encU)) : SlA encU w (some ⟨g, pre.length, none⟩) p := fun j x hx => by
  have hj : j < p.length := (List.getElem?_eq_some_iff.1 hx).1
  have hc := own_cellU h (pre.length + j) (by simp; omega)
  rw [getD_mid _ _ _ _ hj] at hc
  have ex : p.getD j 0 = x := by rw [List.getD_eq_getElem?_getD, hx]; rfl
  rw [ex] at hc
  exact ⟨g, pre.length, rfl, World.block_lt_of_cell? w _ hc, hc⟩
end Go.Proofs.YtalejbabhjlehaaGreatDoor

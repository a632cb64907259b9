/- The walks of layer 1: bits.Div64 at a divisor below 2^60. -/
import Derived.Test.YtlipjedofegciaaDoorIntD
import Derived.Deep.CutBlock
import Derived.Deep.DeepCutAuto
import Derived.BigRegion
namespace Go.Proofs.YtlipjedofegciaaDoor
open Go Go.RowKit

theorem wrap_mul {a b : Nat} (h : a * b < 18446744073709551616) : IntKind.u64.wrap ((a : Int) * (b : Int)) = ((a * b : Nat) : Int) := by
  rw [← Int.natCast_mul]; exact Mul64.wrapN _ h

set_option maxRecDepth 100000 in
set_option maxHeartbeats 1600000 in
theorem div64_core (hi lo y s Y Y1 Y0 U L L1 L0 Q1 R1 Q0 qa ra qb rb : Nat) (h0 : 0 < hi) (h1 : hi < y) (hs1 : 4 ≤ s) (hs2 : s ≤ 63)
    (hy : y ≤ 1152921504606846975) (hlo : lo ≤ 18446744073709551615)
    (hs : (64 - (Lib.bitLen y : Int)) = s)
    (C1 : DC U Y1 Y0 L1 Y Q1) (C0 : DC R1 Y1 Y0 L0 Y Q0)
    (E1 : IntKind.u64.wrap ((y : Int) * 2 ^ s) = (Y : Int)) (E2 : (Y : Int) / 4294967296 = (Y1 : Int)) (E3 : bits .and .u64 (Y : Int) 4294967295 = (Y0 : Int))
    (E4 : bits .or .u64 (IntKind.u64.wrap ((hi : Int) * 2 ^ s)) ((lo : Int) / 2 ^ (64 - s)) = (U : Int))
    (E5 : IntKind.u64.wrap ((lo : Int) * 2 ^ s) = (L : Int)) (E6 : (L : Int) / 4294967296 = (L1 : Int)) (E7 : bits .and .u64 (L : Int) 4294967295 = (L0 : Int))
    (E8 : IntKind.u64.wrap ((U : Int) / (Y1 : Int)) = (qa : Int)) (E9 : IntKind.u64.wrap ((U : Int) - IntKind.u64.wrap ((qa : Int) * (Y1 : Int))) = (ra : Int))
    (E10 : IntKind.u64.wrap (IntKind.u64.wrap (IntKind.u64.wrap ((U : Int) * 4294967296) + (L1 : Int)) - IntKind.u64.wrap ((Q1 : Int) * (Y : Int))) = (R1 : Int))
    (E11 : IntKind.u64.wrap ((R1 : Int) / (Y1 : Int)) = (qb : Int)) (E12 : IntKind.u64.wrap ((R1 : Int) - IntKind.u64.wrap ((qb : Int) * (Y1 : Int))) = (rb : Int))
    (I1 : DInv U Y1 Q1 qa ra) (I0 : DInv R1 Y1 Q0 qb rb) (w : World) :
    Calls Tryd.prog 105 #[.int .u64 hi, .int .u64 lo, .int .u64 y] w fun e w' => ∃ r, e = .returned (.tuple #[.int .u64 ((Q1 * 4294967296 + Q0 : Nat) : Int), .int .u64 r]) ∧ w = w' := by
  rw [show ((Q1 * 4294967296 + Q0 : Nat) : Int) = (Q1 : Int) * 4294967296 + (Q0 : Int) from by omega]
  have LZ := Lib.hid (Tryd.bits_LeadingZeros64 (y : Int) w (by omega) (by omega))
  rw [show ((y : Int)).toNat = y from rfl, hs] at LZ
  have e1 : ((hi : Int) == 0) = false := by rw [beq_eq_false_iff_ne]; omega
  have e2 : ((y : Int) == 0) = false := by rw [beq_eq_false_iff_ne]; omega
  have h1' : (hi : Int) < (y : Int) := by omega
  have hs1' : (4 : Int) ≤ s := by omega
  have hs2' : (s : Int) ≤ 63 := by omega
  have g1 : 0 ≤ (hi : Int) := by omega
  have g3 : (hi : Int) ≤ 1152921504606846975 := by omega
  have g4 : 0 ≤ (lo : Int) := by omega
  have g5 : 0 ≤ (y : Int) := by omega
  have g6 : (y : Int) ≤ 1152921504606846975 := by omega
  have g7 : (lo : Int) ≤ 18446744073709551615 := by omega
  have g8 : ¬ (Y1 : Int) = 0 := by have := C1.y1; omega
  have g9 : ((Y1 : Int) == 0) = false := by rw [beq_eq_false_iff_ne]; exact g8
  have a1 : (2147483648 : Int) ≤ Y1 := by have := C1.y1; omega
  have a2 : (Y1 : Int) ≤ 4294967295 := by have := C1.y1'; omega
  have a3 : (Y0 : Int) ≤ 4294967295 := by have := C1.y0; omega
  have a4 : (L1 : Int) ≤ 4294967295 := by have := C1.l1; omega
  have a5 : (L0 : Int) ≤ 4294967295 := by have := C0.l1; omega
  have a6 : (Q1 : Int) ≤ 4294967295 := by have := C1.small; omega
  have a7 : (Q0 : Int) ≤ 4294967295 := by have := C0.small; omega
  have HC1 := Lib.hid C1
  have HC0 := Lib.hid C0
  have HI1 := Lib.hid I1
  have HI0 := Lib.hid I0
  have b3 : Y0 ≤ 4294967295 := by omega
  have HB3 := Lib.hid b3
  clear hs hs1 hs2 h0 h1 hy hlo C1 C0 I1 I0 b3
  go_enter Tryd.func105, Tryd.ntmps105
  go_upto_block 0 with (go_at_call 117; refine LZ.out.mono ?_; rintro e w1 ⟨rfl, rfl⟩)
  go_cut [15, 16] from 67 to 85 (fun q _ wc => q = .int .u64 Q1 ∧ wc = w1)
  case first =>
    go_wp2_with fail
    go_loopw [15, 16] (fun q r wr => ∃ q' r' : Nat, q = .int .u64 q' ∧ r = .int .u64 r' ∧ Hid (DInv U Y1 Q1 q' r') ∧ wr = w1) (fun q _ _ => (intOf q).toNat)
    case atStart => exact ⟨_, _, rfl, rfl, HI1, rfl⟩
    case round =>
      obtain ⟨q, r, rfl, rfl, hi, rfl⟩ := hrel
      obtain ⟨P, hP⟩ : ∃ P, q * Y0 = P := ⟨_, rfl⟩
      have c1 : (q : Int) ≤ 4294967297 := by have := hi.out.2.2.1; omega
      have c2 : (r : Int) ≤ 4294967295 := by have := hi.out.2.2.2; omega
      have eP : IntKind.u64.wrap ((q : Int) * (Y0 : Int)) = (P : Int) := by
        rw [← hP]
        refine wrap_mul (Nat.lt_of_le_of_lt (Nat.mul_le_mul (show q ≤ 4294967297 by omega) HB3.out) (by decide))
      obtain ⟨T, hT⟩ : ∃ T, 4294967296 * r + L1 = T := ⟨_, rfl⟩
      have eT : 4294967296 * (r : Int) + (L1 : Int) = (T : Int) := by omega
      have eT' : (T : Int) ≤ 18446744073709551615 := by omega
      by_cases ht : 4294967296 ≤ q ∨ 4294967296 * r + L1 < q * Y0
      · obtain ⟨d1, d2, d3⟩ := hi.out.step HC1.out ht
        have HD2 := Lib.hid d2
        have HD3 := Lib.hid d3
        clear d2 d3
        have d1' : (1 : Int) ≤ q := by omega
        rw [hP, hT] at ht
        by_cases hbk : 4294967296 ≤ r + Y1
        · have hbk' : (4294967296 : Int) ≤ (r : Int) + (Y1 : Int) := by omega
          have HQ : Hid (((q : Int) - 1) = (Q1 : Int)) := by
            have := HD3.out hbk
            show _ = _
            omega
          clear hP hT hi hbk d1
          by_cases hq : 4294967296 ≤ q
          · have hq' : (4294967296 : Int) ≤ q := by omega
            clear ht hq
            go_wp2
            go_meet
            case rel => exact ⟨by rw [HQ.out], rfl⟩
          · have hq' : decide ((4294967296 : Int) ≤ (q : Int)) = false := decide_eq_false (by omega)
            have ht' : (T : Int) < (P : Int) := by omega
            clear ht hq
            go_wp2
            go_meet
            case rel => exact ⟨by rw [HQ.out], rfl⟩
        · have hbk' : decide ((4294967296 : Int) ≤ (r : Int) + (Y1 : Int)) = false := decide_eq_false (by omega)
          have HQ := Lib.hid (HD2.out (by omega))
          have HQ1 : Hid (Value.int .u64 ((q : Int) - 1) = Value.int .u64 ((q - 1 : Nat) : Int)) := by
            show _ = _
            rw [show ((q : Int) - 1) = ((q - 1 : Nat) : Int) by omega]
          have HQ2 : Hid (Value.int .u64 ((r : Int) + (Y1 : Int)) = Value.int .u64 ((r + Y1 : Nat) : Int)) := by
            show _ = _
            rw [Int.natCast_add]
          clear hP hT hi hbk d1
          by_cases hq : 4294967296 ≤ q
          · have hq' : (4294967296 : Int) ≤ q := by omega
            clear ht hq
            go_wp2
            go_roundw
            case rel => exact ⟨q - 1, r + Y1, HQ1.out, HQ2.out, HQ.out, trivial⟩
            case measure => simp [intOf]; omega
          · have hq' : decide ((4294967296 : Int) ≤ (q : Int)) = false := decide_eq_false (by omega)
            have ht' : (T : Int) < (P : Int) := by omega
            clear ht hq
            go_wp2
            go_roundw
            case rel => exact ⟨q - 1, r + Y1, HQ1.out, HQ2.out, HQ.out, trivial⟩
            case measure => simp [intOf]; omega
      · have hq' : decide ((4294967296 : Int) ≤ (q : Int)) = false := decide_eq_false (by omega)
        have HQ := Lib.hid (hi.out.stop HC1.out (by omega))
        have ht' : (P : Int) ≤ (T : Int) := by omega
        clear hP hT hi ht
        go_wp2
        go_meet
        case rel => exact ⟨by rw [HQ.out], rfl⟩
  case rest =>
    obtain ⟨rfl, rfl⟩ := hcut
    go_upto_block 2 with fail
    go_cut [16, 18] from 102 to 120 (fun _ q w9 => q = .int .u64 Q0 ∧ w9 = wc)
    case first =>
      go_wp2_with fail
      go_loopw [16, 18] (fun r q wr => ∃ q' r' : Nat, q = .int .u64 q' ∧ r = .int .u64 r' ∧ Hid (DInv R1 Y1 Q0 q' r') ∧ wr = wc) (fun _ q _ => (intOf q).toNat)
      case atStart => exact ⟨_, _, rfl, rfl, HI0, rfl⟩
      case round =>
        obtain ⟨q, r, rfl, rfl, hi, rfl⟩ := hrel
        obtain ⟨P, hP⟩ : ∃ P, q * Y0 = P := ⟨_, rfl⟩
        have c1 : (q : Int) ≤ 4294967297 := by have := hi.out.2.2.1; omega
        have c2 : (r : Int) ≤ 4294967295 := by have := hi.out.2.2.2; omega
        have eP : IntKind.u64.wrap ((q : Int) * (Y0 : Int)) = (P : Int) := by
          rw [← hP]
          refine wrap_mul (Nat.lt_of_le_of_lt (Nat.mul_le_mul (show q ≤ 4294967297 by omega) HB3.out) (by decide))
        obtain ⟨T, hT⟩ : ∃ T, 4294967296 * r + L0 = T := ⟨_, rfl⟩
        have eT : 4294967296 * (r : Int) + (L0 : Int) = (T : Int) := by omega
        have eT' : (T : Int) ≤ 18446744073709551615 := by omega
        by_cases ht : 4294967296 ≤ q ∨ 4294967296 * r + L0 < q * Y0
        · obtain ⟨d1, d2, d3⟩ := hi.out.step HC0.out ht
          have HD2 := Lib.hid d2
          have HD3 := Lib.hid d3
          clear d2 d3
          have d1' : (1 : Int) ≤ q := by omega
          rw [hP, hT] at ht
          by_cases hbk : 4294967296 ≤ r + Y1
          · have hbk' : (4294967296 : Int) ≤ (r : Int) + (Y1 : Int) := by omega
            have HQ : Hid (((q : Int) - 1) = (Q0 : Int)) := by
              have := HD3.out hbk
              show _ = _
              omega
            clear hP hT hi hbk d1
            by_cases hq : 4294967296 ≤ q
            · have hq' : (4294967296 : Int) ≤ q := by omega
              clear ht hq
              go_wp2
              go_meet
              case rel => exact ⟨by rw [HQ.out], rfl⟩
            · have hq' : decide ((4294967296 : Int) ≤ (q : Int)) = false := decide_eq_false (by omega)
              have ht' : (T : Int) < (P : Int) := by omega
              clear ht hq
              go_wp2
              go_meet
              case rel => exact ⟨by rw [HQ.out], rfl⟩
          · have hbk' : decide ((4294967296 : Int) ≤ (r : Int) + (Y1 : Int)) = false := decide_eq_false (by omega)
            have HQ := Lib.hid (HD2.out (by omega))
            have HQ1 : Hid (Value.int .u64 ((q : Int) - 1) = Value.int .u64 ((q - 1 : Nat) : Int)) := by
              show _ = _
              rw [show ((q : Int) - 1) = ((q - 1 : Nat) : Int) by omega]
            have HQ2 : Hid (Value.int .u64 ((r : Int) + (Y1 : Int)) = Value.int .u64 ((r + Y1 : Nat) : Int)) := by
              show _ = _
              rw [Int.natCast_add]
            clear hP hT hi hbk d1
            by_cases hq : 4294967296 ≤ q
            · have hq' : (4294967296 : Int) ≤ q := by omega
              clear ht hq
              go_wp2
              go_roundw
              case rel => exact ⟨q - 1, r + Y1, HQ1.out, HQ2.out, HQ.out, trivial⟩
              case measure => simp [intOf]; omega
            · have hq' : decide ((4294967296 : Int) ≤ (q : Int)) = false := decide_eq_false (by omega)
              have ht' : (T : Int) < (P : Int) := by omega
              clear ht hq
              go_wp2
              go_roundw
              case rel => exact ⟨q - 1, r + Y1, HQ1.out, HQ2.out, HQ.out, trivial⟩
              case measure => simp [intOf]; omega
        · have hq' : decide ((4294967296 : Int) ≤ (q : Int)) = false := decide_eq_false (by omega)
          have HQ := Lib.hid (hi.out.stop HC0.out (by omega))
          have ht' : (P : Int) ≤ (T : Int) := by omega
          clear hP hT hi ht
          go_wp2
          go_meet
          case rel => exact ⟨by rw [HQ.out], rfl⟩
    case rest =>
      obtain ⟨rfl, rfl⟩ := hcut
      go_wp2
      go_ret2
      exact ⟨_, rfl, rfl⟩
end Go.Proofs.YtlipjedofegciaaDoor

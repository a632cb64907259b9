/- The walks of layer 1: bits.Div64, whole. -/
import Derived.Test.YtlipjedofegciaaDoorIntD2
import Derived.BigQuiet
namespace Go.Proofs.YtlipjedofegciaaDoor
open Go Go.RowKit

set_option maxRecDepth 100000 in
theorem div64_zero (lo y : Nat) (h1 : 0 < y) (hy : y ≤ 1152921504606846975) (hlo : lo ≤ 18446744073709551615) (w : World) :
    Calls Tryd.prog 105 #[.int .u64 0, .int .u64 lo, .int .u64 y] w fun e w' => ∃ r, e = .returned (.tuple #[.int .u64 ((lo / y : Nat) : Int), .int .u64 r]) ∧ ∃ n, w' = w.drewN n := by
  rw [show ((lo / y : Nat) : Int) = (lo : Int) / (y : Int) from Int.natCast_ediv _ _]
  have e2 : ((y : Int) == 0) = false := by rw [beq_eq_false_iff_ne]; omega
  have e3 : ¬ (y : Int) = 0 := by omega
  have g0 : 0 < (y : Int) := by omega
  have g4 : 0 ≤ (lo : Int) := by omega
  have g6 : (y : Int) ≤ 1152921504606846975 := by omega
  have g7 : (lo : Int) ≤ 18446744073709551615 := by omega
  have e5 : IntKind.u64.wrap ((lo : Int) / (y : Int)) = (lo : Int) / (y : Int) := by
    rw [show (lo : Int) / (y : Int) = ((lo / y : Nat) : Int) from (Int.natCast_ediv _ _).symm]
    exact Mul64.wrapN _ (Nat.lt_of_le_of_lt (Nat.div_le_self _ _) (by omega))
  clear h1 hy hlo
  go_enter Tryd.func105, Tryd.ntmps105
  go_wp2_with fail
  go_quiet (fail)
  go_wp2
  go_ret2
  exact ⟨_, rfl, _, rfl⟩

theorem e10 (U L1 Y Q R : Nat) (h : Q * Y + R = U * 4294967296 + L1) (hR : R < 18446744073709551616) :
    IntKind.u64.wrap (IntKind.u64.wrap (IntKind.u64.wrap ((U : Int) * 4294967296) + (L1 : Int)) - IntKind.u64.wrap ((Q : Int) * (Y : Int))) = (R : Int) := by
  have e : (Q : Int) * (Y : Int) = ((Q * Y : Nat) : Int) := (Int.natCast_mul _ _).symm
  rw [e]
  generalize Q * Y = z at *
  simp only [IntKind.wrap_u64]
  omega
theorem e9 (U Y1 : Nat) (hU : U < 18446744073709551616) : IntKind.u64.wrap ((U : Int) - IntKind.u64.wrap (((U / Y1 : Nat) : Int) * (Y1 : Int))) = ((U % Y1 : Nat) : Int) := by
  have e : ((U / Y1 : Nat) : Int) * (Y1 : Int) = ((U / Y1 * Y1 : Nat) : Int) := (Int.natCast_mul _ _).symm
  have hm := Nat.div_add_mod U Y1
  rw [Nat.mul_comm] at hm
  rw [e]
  generalize U / Y1 * Y1 = z at *
  simp only [IntKind.wrap_u64]
  omega
theorem e8 (U Y1 : Nat) (hU : U < 18446744073709551616) : IntKind.u64.wrap ((U : Int) / (Y1 : Int)) = ((U / Y1 : Nat) : Int) := by
  rw [← Int.natCast_ediv]
  exact Mul64.wrapN _ (Nat.lt_of_le_of_lt (Nat.div_le_self _ _) hU)
theorem two_halves (N Y L1 L0 U Q1 R1 Q0 : Nat) (hY : 0 < Y) (h1 : Q1 * Y + R1 = U * 4294967296 + L1) (h0 : Q0 = (R1 * 4294967296 + L0) / Y) (hN : N = (U * 4294967296 + L1) * 4294967296 + L0) : N / Y = Q1 * 4294967296 + Q0 := by
  have e : N = (R1 * 4294967296 + L0) + Y * (Q1 * 4294967296) := by
    rw [hN, ← h1, ← Nat.mul_assoc, Nat.mul_comm Y Q1]
    omega
  rw [e, Nat.add_mul_div_left _ _ hY, ← h0]
  omega
/-- The numbers that the code makes of the operands. -/
theorem div64_nums (hi lo y p p' : Nat) (hp : p * p' = 18446744073709551616) (hlt : hi < y) (hlo : lo < 18446744073709551616) (hy' : y < p') (hyp : p' ≤ 2 * y) (hp0 : 0 < p) :
    9223372036854775808 ≤ y * p ∧ y * p < 18446744073709551616 ∧ lo / p' < p ∧ hi * p + lo / p' < y * p ∧ (hi * p + lo / p') * 18446744073709551616 + lo * p % 18446744073709551616 = (hi * 18446744073709551616 + lo) * p := by
  have a1 : p' * p ≤ 2 * y * p := Nat.mul_le_mul_right _ hyp
  have a2 : y * p < p' * p := Nat.mul_lt_mul_of_pos_right hy' hp0
  have a3 : (hi + 1) * p ≤ y * p := Nat.mul_le_mul_right _ hlt
  have a4 : lo / p' < p := by
    rw [Nat.div_lt_iff_lt_mul (by omega), hp]; exact hlo
  have hm := Nat.div_add_mod lo p'
  have hr : lo % p' < p' := Nat.mod_lt _ (by omega)
  have a5 : lo * p = lo / p' * 18446744073709551616 + lo % p' * p := by
    rw [← hp]
    have : (p' * (lo / p') + lo % p') * p = lo / p' * (p * p') + lo % p' * p := by grind
    rw [hm] at this
    exact this
  have a6 : lo % p' * p < 18446744073709551616 := by
    rw [← hp, Nat.mul_comm p p']
    exact Nat.mul_lt_mul_of_pos_right hr hp0
  rw [Nat.mul_comm p' p, hp] at a1 a2
  rw [Nat.mul_assoc] at a1
  rw [Nat.add_mul, Nat.one_mul] at a3
  refine ⟨by omega, a2, a4, by omega, ?_⟩
  rw [a5, Nat.add_mul, Nat.add_mul]
  have a7 : hi * 18446744073709551616 * p = hi * p * 18446744073709551616 := by grind
  rw [a7]
  generalize hi * p = z at *
  generalize lo % p' * p = t at *
  omega

theorem div64_any (hi lo y : Nat) (hlt : hi < y) (hy : y ≤ 1152921504606846975) (hlo : lo ≤ 18446744073709551615) (w : World) :
    Calls Tryd.prog 105 #[.int .u64 hi, .int .u64 lo, .int .u64 y] w fun e w' => ∃ r, e = .returned (.tuple #[.int .u64 (((hi * 18446744073709551616 + lo) / y : Nat) : Int), .int .u64 r]) ∧ ∃ n, w' = w.drewN n := by
  rcases Nat.eq_zero_or_pos hi with rfl | h0
  · rw [Nat.zero_mul, Nat.zero_add]
    exact div64_zero lo y (by omega) hy hlo w
  obtain ⟨b1, b2, b3⟩ := Lib.bitLenAux_bounds 64 y (Nat.lt_of_le_of_lt hy (by decide)) (by omega)
  have hb0 : Lib.bitLen y = Lib.bitLenAux 64 y := rfl
  rw [← hb0] at b1 b2 b3
  clear hb0
  obtain ⟨b, hb⟩ : ∃ b, Lib.bitLen y = b + 1 := ⟨Lib.bitLen y - 1, by omega⟩
  rw [hb, Nat.add_sub_cancel] at b2
  rw [hb] at b3
  have hb59 : b ≤ 59 := by
    rcases Nat.lt_or_ge 59 b with h | h
    · have : 2 ^ 60 ≤ 2 ^ b := Nat.pow_le_pow_right (by omega) h
      have h60 : (2 : Nat) ^ 60 = 1152921504606846976 := by decide
      omega
    · exact h
  obtain ⟨s, hs⟩ : ∃ s, s + (b + 1) = 64 := ⟨63 - b, by omega⟩
  have hs64 : 64 - s = b + 1 := by omega
  have hpp : 2 ^ s * 2 ^ (b + 1) = 18446744073709551616 := by
    rw [← Nat.pow_add, hs]
  have hp0 : 0 < 2 ^ s := Nat.pow_pos (by omega)
  have hyp : 2 ^ (b + 1) ≤ 2 * y := by rw [Nat.pow_succ]; omega
  have c1 : (2 : Int) ^ s = ((2 ^ s : Nat) : Int) := by rw [Int.natCast_pow]; rfl
  have c2 : (2 : Int) ^ (b + 1) = ((2 ^ (b + 1) : Nat) : Int) := by rw [Int.natCast_pow]; rfl
  obtain ⟨n1, n2, n3, n4, n5⟩ := div64_nums hi lo y (2 ^ s) (2 ^ (b + 1)) hpp hlt (by omega) b3 hyp hp0
  have hor : hi * 2 ^ s ||| lo / 2 ^ (b + 1) = hi * 2 ^ s + lo / 2 ^ (b + 1) := by
    rw [Nat.mul_comm]
    exact (Nat.two_pow_add_eq_or_of_lt n3 hi).symm
  have hA : hi * 2 ^ s < 18446744073709551616 := Nat.lt_of_le_of_lt (Nat.le_add_right _ _) (Nat.lt_trans n4 n2)
  have hB : lo / 2 ^ (b + 1) < 18446744073709551616 := Nat.lt_of_le_of_lt (Nat.le_add_left _ _) (Nat.lt_trans n4 n2)
  have E4 : bits .or .u64 (IntKind.u64.wrap ((hi : Int) * 2 ^ s)) ((lo : Int) / 2 ^ (64 - s)) = ((hi * 2 ^ s + lo / 2 ^ (b + 1) : Nat) : Int) := by
    rw [hs64, c1, c2, ← Int.natCast_mul, Mul64.wrapN _ hA, ← Int.natCast_ediv, bits_or_u64_nat _ _ hA hB, hor]
  have E1 : IntKind.u64.wrap ((y : Int) * 2 ^ s) = ((y * 2 ^ s : Nat) : Int) := by
    rw [c1, ← Int.natCast_mul]; exact Mul64.wrapN _ n2
  have E5 : IntKind.u64.wrap ((lo : Int) * 2 ^ s) = ((lo * 2 ^ s % 18446744073709551616 : Nat) : Int) := by
    rw [c1, ← Int.natCast_mul]; exact Mul64.wrapM _
  have hq : (hi * 18446744073709551616 + lo) / y = ((hi * 2 ^ s + lo / 2 ^ (b + 1)) * 18446744073709551616 + lo * 2 ^ s % 18446744073709551616) / (y * 2 ^ s) := by
    rw [n5, Nat.mul_div_mul_right _ _ hp0]
  have hL : lo * 2 ^ s % 18446744073709551616 < 18446744073709551616 := Nat.mod_lt _ (by omega)
  rw [hq]
  clear hA hB hor hq n5 n3 hpp hp0 hyp c1 c2 b2 b3 hs64
  generalize lo * 2 ^ s % 18446744073709551616 = L at *
  generalize hi * 2 ^ s + lo / 2 ^ (b + 1) = U at *
  generalize y * 2 ^ s = Y at *
  have C1 : DC U (Y / 4294967296) (Y % 4294967296) (L / 4294967296) Y ((U * 4294967296 + L / 4294967296) / Y) := ⟨by omega, by omega, by omega, by omega, by omega, n4, rfl⟩
  obtain ⟨r1, r2⟩ := C1.rest
  have C0 : DC ((U * 4294967296 + L / 4294967296) % Y) (Y / 4294967296) (Y % 4294967296) (L % 4294967296) Y (((U * 4294967296 + L / 4294967296) % Y * 4294967296 + L % 4294967296) / Y) := ⟨by omega, by omega, by omega, by omega, by omega, r2, rfl⟩
  have ht := two_halves (U * 18446744073709551616 + L) Y (L / 4294967296) (L % 4294967296) U _ _ _ (by omega) r1 rfl (by omega)
  rw [ht]
  refine (div64_core hi lo y s Y (Y / 4294967296) (Y % 4294967296) U L (L / 4294967296) (L % 4294967296) ((U * 4294967296 + L / 4294967296) / Y) ((U * 4294967296 + L / 4294967296) % Y) (((U * 4294967296 + L / 4294967296) % Y * 4294967296 + L % 4294967296) / Y)
    (U / (Y / 4294967296)) (U % (Y / 4294967296)) ((U * 4294967296 + L / 4294967296) % Y / (Y / 4294967296)) ((U * 4294967296 + L / 4294967296) % Y % (Y / 4294967296))
    h0 hlt (by omega) (by omega) hy hlo (by rw [hb]; omega) C1 C0 E1 (Mul64.divN Y) (Mul64.maskN Y n2) E4 E5 (Mul64.divN L) (Mul64.maskN L hL) (e8 _ _ (by omega)) (e9 _ _ (by omega))
    (e10 U _ Y _ _ r1 (by omega)) (e8 _ _ (by omega)) (e9 _ _ (by omega)) C1.start C0.start w).mono ?_
  rintro e w' ⟨r, rfl, rfl⟩
  exact ⟨r, rfl, 0, rfl⟩
end Go.Proofs.YtlipjedofegciaaDoor

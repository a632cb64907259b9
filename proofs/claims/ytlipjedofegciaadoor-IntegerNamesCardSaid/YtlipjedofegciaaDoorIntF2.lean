/- The walks of layer 1: the chapter's examples. -/
import Derived.Test.YtlipjedofegciaaDoorIntF
namespace Go.Proofs.YtlipjedofegciaaDoor
open Go Go.RowKit

theorem al_a : opS (· + ·) [57, 57, 57, 57, 57, 57, 57, 57, 57, 57, 57, 57, 57, 57, 57, 57, 57, 57, 57, 57] [49] = ([49, 48, 48, 48, 48, 48, 48, 48, 48, 48, 48, 48, 48, 48, 48, 48, 48, 48, 48, 48, 48], 0) := by decide +kernel
theorem al_b : opS (· * ·) [45, 49, 50] [49, 50] = ([45, 49, 52, 52], 0) := by decide +kernel
theorem al_c : dmS [45, 55] [50] = ([45, 52], [49], 0) := by decide +kernel
theorem al_d : dmS [45, 55] [45, 50] = ([52], [49], 0) := by decide +kernel
theorem al_e : gcS [49, 50] [45, 49, 56] = ([54], 0) := by decide +kernel
theorem ac_a (w : World) (hv : VarT w) : Calls Tryd.prog 14 #[.string ⟨#[57, 57, 57, 57, 57, 57, 57, 57, 57, 57, 57, 57, 57, 57, 57, 57, 57, 57, 57, 57]⟩, .string ⟨#[49]⟩] w fun e w' => e = .returned (.tuple #[.string ⟨[49, 48, 48, 48, 48, 48, 48, 48, 48, 48, 48, 48, 48, 48, 48, 48, 48, 48, 48, 48, 48].toArray⟩, .int .i64 0]) ∧ Below w.heap.size w w' := by
  have h := add_any ⟨#[57, 57, 57, 57, 57, 57, 57, 57, 57, 57, 57, 57, 57, 57, 57, 57, 57, 57, 57, 57]⟩ ⟨#[49]⟩ (by decide) (by decide) w hv
  rw [show opS (· + ·) (⟨#[57, 57, 57, 57, 57, 57, 57, 57, 57, 57, 57, 57, 57, 57, 57, 57, 57, 57, 57, 57]⟩ : ByteArray).data.toList (⟨#[49]⟩ : ByteArray).data.toList = ([49, 48, 48, 48, 48, 48, 48, 48, 48, 48, 48, 48, 48, 48, 48, 48, 48, 48, 48, 48, 48], 0) from al_a] at h
  exact h
theorem ac_b (w : World) (hv : VarT w) : Calls Tryd.prog 16 #[.string ⟨#[45, 49, 50]⟩, .string ⟨#[49, 50]⟩] w fun e w' => e = .returned (.tuple #[.string ⟨[45, 49, 52, 52].toArray⟩, .int .i64 0]) ∧ Below w.heap.size w w' := by
  have h := mul_any ⟨#[45, 49, 50]⟩ ⟨#[49, 50]⟩ (by decide) (by decide) w hv
  rw [show opS (· * ·) (⟨#[45, 49, 50]⟩ : ByteArray).data.toList (⟨#[49, 50]⟩ : ByteArray).data.toList = ([45, 49, 52, 52], 0) from al_b] at h
  exact h
theorem ac_c (w : World) (hv : VarT w) : Calls Tryd.prog 17 #[.string ⟨#[45, 55]⟩, .string ⟨#[50]⟩] w fun e w' => e = .returned (.tuple #[.string ⟨[45, 52].toArray⟩, .string ⟨[49].toArray⟩, .int .i64 0]) ∧ Below w.heap.size w w' := by
  have h := divmod_any ⟨#[45, 55]⟩ ⟨#[50]⟩ (by decide) (by decide) w hv
  rw [show dmS (⟨#[45, 55]⟩ : ByteArray).data.toList (⟨#[50]⟩ : ByteArray).data.toList = ([45, 52], [49], 0) from al_c] at h
  exact h
theorem ac_d (w : World) (hv : VarT w) : Calls Tryd.prog 17 #[.string ⟨#[45, 55]⟩, .string ⟨#[45, 50]⟩] w fun e w' => e = .returned (.tuple #[.string ⟨[52].toArray⟩, .string ⟨[49].toArray⟩, .int .i64 0]) ∧ Below w.heap.size w w' := by
  have h := divmod_any ⟨#[45, 55]⟩ ⟨#[45, 50]⟩ (by decide) (by decide) w hv
  rw [show dmS (⟨#[45, 55]⟩ : ByteArray).data.toList (⟨#[45, 50]⟩ : ByteArray).data.toList = ([52], [49], 0) from al_d] at h
  exact h
theorem ac_e (w : World) (hv : VarT w) : Calls Tryd.prog 18 #[.string ⟨#[49, 50]⟩, .string ⟨#[45, 49, 56]⟩] w fun e w' => e = .returned (.tuple #[.string ⟨[54].toArray⟩, .int .i64 0]) ∧ Below w.heap.size w w' := by
  have h := gcd_any ⟨#[49, 50]⟩ ⟨#[45, 49, 56]⟩ (by decide) (by decide) w hv
  rw [show gcS (⟨#[49, 50]⟩ : ByteArray).data.toList (⟨#[45, 49, 56]⟩ : ByteArray).data.toList = ([54], 0) from al_e] at h
  exact h

set_option maxRecDepth 100000 in
set_option maxHeartbeats 1600000 in
theorem alive_any (w : World) (hv : VarT w) : Calls Tryd.prog 21 #[] w fun e w' => e = .returned (.bool true) ∧ Below w.heap.size w w' := by
  have HA := Lib.hid ac_a
  have HB := Lib.hid ac_b
  have HC := Lib.hid ac_c
  have HD := Lib.hid ac_d
  have HE := Lib.hid ac_e
  have HV := Lib.hid hv
  clear hv
  go_enter Tryd.func21, Tryd.ntmps21
  go_wp2_with (first
    | (go_at_call 14; (with_reducible refine (HA.out _ HV.out).mono ?_); rintro e w1 ⟨rfl, b1⟩)
    | (go_at_call 16; (with_reducible refine (HB.out _ (HV.out.below b1)).mono ?_); rintro e w2 ⟨rfl, b⟩; have b2 := bt b1 b; clear b)
    | (go_at_call 17; (with_reducible refine (HC.out _ (HV.out.below b2)).mono ?_); rintro e w3 ⟨rfl, b⟩; have b3 := bt b2 b; clear b)
    | (go_at_call 17; (with_reducible refine (HD.out _ (HV.out.below b3)).mono ?_); rintro e w4 ⟨rfl, b⟩; have b4 := bt b3 b; clear b)
    | (go_at_call 18; (with_reducible refine (HE.out _ (HV.out.below b4)).mono ?_); rintro e w5 ⟨rfl, b⟩; have b5 := bt b4 b; clear b))
  go_ret
  exact ⟨rfl, b5⟩
end Go.Proofs.YtlipjedofegciaaDoor

/- The walk of the law RationalNear. -/
import Derived.Test.YtgjhgkglfflmjaaGreatDoorRatAh
namespace Go.Proofs.YtgjhgkglfflmjaaGreatDoor
open Go Go.RowKit

set_option maxRecDepth 100000 in
set_option maxHeartbeats 6400000 in
theorem near_0_0 (sa sr sd sz sn sden : ByteArray) (h : Int) (w : World) (hv : VarR w) (hf : fitR 400 [sa] = true)
    (hb0 : 0 < sd.size) (hb1 : ((sd[0].toNat : Int) == 45) = true) (hext : sd.extract 1 sd.size = sz) (hne : (sd.toList == []) = false)
    (H0 : ∀ W, VarR W → Calls Tryz.prog 21 #[.string sa, .int .u8 0] W (StE sr 0 W))
    (H1 : ∀ W, VarR W → Calls Tryz.prog 35 #[.func (.func 25) #[] #[], .string sr, .string sa] W (StrR sd W))
    (H2 : ∀ W, Calls Tryz.prog 36 #[.string sr] W (IntR 0 W))
    (H3 : ∀ W, VarR W → Calls Tryz.prog 15 #[.string sz, .string ⟨#[49]⟩] W (CmE (-1) 0 W))
    (H4 : ∀ W, VarR W → Calls Tryz.prog 15 #[.string sz, .string ⟨#[49, 47, 50]⟩] W (CmE h 0 W))
    (H5 : ∀ W, VarR W → Calls Tryz.prog 15 #[.string sd, .string ⟨#[48]⟩] W (CmE (-1) 0 W))
    (H6 : ∀ W, VarR W → Calls Tryz.prog 15 #[.string sa, .string ⟨#[48]⟩] W (CmE 1 0 W))
    (H7 : ∀ W, VarR W → Calls Tryz.prog 37 #[.string sa] W (TwoR sn sden 0 W))
    (hden : (sden.toList == [49]) = false) :
    Calls Tryz.prog 9 #[.string sa, .int .u8 0] w fun e w' => e = .returned (.bool true) ∧ Below w.heap.size w w' := by
  have HAL := Lib.hid ralive_any
  have HV := Lib.hid hv
  have HF := Lib.hid (rfits_one 400 (by omega) sa true hf)
  have J0 := Lib.hid H0
  have J1 := Lib.hid H1
  have J2 := Lib.hid H2
  have J3 := Lib.hid H3
  have J4 := Lib.hid H4
  have J5 := Lib.hid H5
  have J6 := Lib.hid H6
  have J7 := Lib.hid H7
  have hsl : 1 ≤ sd.size := hb0
  clear hf hv H0 H1 H2 H3 H4 H5 H6 H7
  go_enter Tryz.func9, Tryz.ntmps9
  go_wp2_with (first
    | (go_at_call 22; refine (HAL.out _ HV.out).mono ?_; rintro e w0 ⟨rfl, b0⟩; have B0 := Lib.hid b0; clear b0)
    | (go_at_call 34; refine (HF.out _ _).mono ?_; rintro e u0 ⟨rfl, b⟩; have D0 := Lib.hid (bt (bt B0.out ((Below.refl _ w0).alloc (Nat.le_refl _) _)) b); clear b)
    | (go_at_call 21; refine (J0.out _ (HV.out.below D0.out)).mono ?_; rintro e u1 ⟨rfl, b⟩; have D1 := Lib.hid (bt D0.out b); clear b)
    | (go_at_call 35; refine (J1.out _ (HV.out.below D1.out)).mono ?_; rintro e u2 ⟨rfl, b⟩; have D2 := Lib.hid (bt D1.out b); clear b)
    | (go_at_call 36; refine (J2.out _).mono ?_; rintro e u3 ⟨rfl, rfl⟩)
    | (go_at_call 15; (with_reducible refine (J3.out _ (HV.out.below D2.out)).mono ?_); rintro e u4 ⟨rfl, b⟩; have D4 := Lib.hid (bt D2.out b); clear b)
    | (go_at_call 15; (with_reducible refine (J4.out _ (HV.out.below D4.out)).mono ?_); rintro e u5 ⟨rfl, b⟩; have D5 := Lib.hid (bt D4.out b); clear b)
    | (go_at_call 15; (with_reducible refine (J5.out _ (HV.out.below D5.out)).mono ?_); rintro e u6 ⟨rfl, b⟩; have D6 := Lib.hid (bt D5.out b); clear b)
    | (go_at_call 15; (with_reducible refine (J6.out _ (HV.out.below D6.out)).mono ?_); rintro e u7 ⟨rfl, b⟩; have D7 := Lib.hid (bt D6.out b); clear b)
    | (go_at_call 37; refine (J7.out _ (HV.out.below D7.out)).mono ?_; rintro e u8 ⟨rfl, b⟩; have D8 := Lib.hid (bt D7.out b); clear b))
  go_ret
  exact ⟨rfl, D8.out⟩
set_option maxRecDepth 100000 in
set_option maxHeartbeats 6400000 in
theorem near_0_1 (sa sr sd sz sn sden : ByteArray) (h : Int) (w : World) (hv : VarR w) (hf : fitR 400 [sa] = true)
    (hb0 : 0 < sd.size) (hb1 : ((sd[0].toNat : Int) == 45) = false) (hsz : sd = sz) (hne : (sd.toList == []) = false)
    (H0 : ∀ W, VarR W → Calls Tryz.prog 21 #[.string sa, .int .u8 0] W (StE sr 0 W))
    (H1 : ∀ W, VarR W → Calls Tryz.prog 35 #[.func (.func 25) #[] #[], .string sr, .string sa] W (StrR sd W))
    (H2 : ∀ W, Calls Tryz.prog 36 #[.string sr] W (IntR 0 W))
    (H3 : ∀ W, VarR W → Calls Tryz.prog 15 #[.string sz, .string ⟨#[49]⟩] W (CmE (-1) 0 W))
    (H4 : ∀ W, VarR W → Calls Tryz.prog 15 #[.string sz, .string ⟨#[49, 47, 50]⟩] W (CmE h 0 W))
    (H5 : ∀ W, VarR W → Calls Tryz.prog 15 #[.string sd, .string ⟨#[48]⟩] W (CmE 1 0 W))
    (H6 : ∀ W, VarR W → Calls Tryz.prog 15 #[.string sa, .string ⟨#[48]⟩] W (CmE (-1) 0 W))
    (H7 : ∀ W, VarR W → Calls Tryz.prog 37 #[.string sa] W (TwoR sn sden 0 W))
    (hden : (sden.toList == [49]) = false) :
    Calls Tryz.prog 9 #[.string sa, .int .u8 0] w fun e w' => e = .returned (.bool true) ∧ Below w.heap.size w w' := by
  subst hsz
  have HAL := Lib.hid ralive_any
  have HV := Lib.hid hv
  have HF := Lib.hid (rfits_one 400 (by omega) sa true hf)
  have J0 := Lib.hid H0
  have J1 := Lib.hid H1
  have J2 := Lib.hid H2
  have J3 := Lib.hid H3
  have J4 := Lib.hid H4
  have J5 := Lib.hid H5
  have J6 := Lib.hid H6
  have J7 := Lib.hid H7
  clear hf hv H0 H1 H2 H3 H4 H5 H6 H7
  go_enter Tryz.func9, Tryz.ntmps9
  go_wp2_with (first
    | (go_at_call 22; refine (HAL.out _ HV.out).mono ?_; rintro e w0 ⟨rfl, b0⟩; have B0 := Lib.hid b0; clear b0)
    | (go_at_call 34; refine (HF.out _ _).mono ?_; rintro e u0 ⟨rfl, b⟩; have D0 := Lib.hid (bt (bt B0.out ((Below.refl _ w0).alloc (Nat.le_refl _) _)) b); clear b)
    | (go_at_call 21; refine (J0.out _ (HV.out.below D0.out)).mono ?_; rintro e u1 ⟨rfl, b⟩; have D1 := Lib.hid (bt D0.out b); clear b)
    | (go_at_call 35; refine (J1.out _ (HV.out.below D1.out)).mono ?_; rintro e u2 ⟨rfl, b⟩; have D2 := Lib.hid (bt D1.out b); clear b)
    | (go_at_call 36; refine (J2.out _).mono ?_; rintro e u3 ⟨rfl, rfl⟩)
    | (go_at_call 15; (with_reducible refine (J3.out _ (HV.out.below D2.out)).mono ?_); rintro e u4 ⟨rfl, b⟩; have D4 := Lib.hid (bt D2.out b); clear b)
    | (go_at_call 15; (with_reducible refine (J4.out _ (HV.out.below D4.out)).mono ?_); rintro e u5 ⟨rfl, b⟩; have D5 := Lib.hid (bt D4.out b); clear b)
    | (go_at_call 15; (with_reducible refine (J5.out _ (HV.out.below D5.out)).mono ?_); rintro e u6 ⟨rfl, b⟩; have D6 := Lib.hid (bt D5.out b); clear b)
    | (go_at_call 15; (with_reducible refine (J6.out _ (HV.out.below D6.out)).mono ?_); rintro e u7 ⟨rfl, b⟩; have D7 := Lib.hid (bt D6.out b); clear b)
    | (go_at_call 37; refine (J7.out _ (HV.out.below D7.out)).mono ?_; rintro e u8 ⟨rfl, b⟩; have D8 := Lib.hid (bt D7.out b); clear b))
  go_ret
  exact ⟨rfl, D8.out⟩
set_option maxRecDepth 100000 in
set_option maxHeartbeats 6400000 in
theorem near_0_z0 (sa sd sz sn sden : ByteArray) (w : World) (hv : VarR w) (hf : fitR 400 [sa] = true)
    (hb0 : 0 < sd.size) (hb1 : ((sd[0].toNat : Int) == 45) = false) (hsz : sd = sz) (hne : (sd.toList == []) = false)
    (H0 : ∀ W, VarR W → Calls Tryz.prog 21 #[.string sa, .int .u8 0] W (StE sa 0 W))
    (H1 : ∀ W, VarR W → Calls Tryz.prog 35 #[.func (.func 25) #[] #[], .string sa, .string sa] W (StrR sd W))
    (H2 : ∀ W, Calls Tryz.prog 36 #[.string sa] W (IntR 0 W))
    (H3 : ∀ W, VarR W → Calls Tryz.prog 15 #[.string sz, .string ⟨#[49]⟩] W (CmE (-1) 0 W))
    (H4 : ∀ W, VarR W → Calls Tryz.prog 15 #[.string sz, .string ⟨#[49, 47, 50]⟩] W (CmE (-1) 0 W))
    (H5 : ∀ W, VarR W → Calls Tryz.prog 15 #[.string sd, .string ⟨#[48]⟩] W (CmE 0 0 W))
    (H6 : ∀ W, VarR W → Calls Tryz.prog 15 #[.string sa, .string ⟨#[48]⟩] W (CmE (-1) 0 W))
    (H7 : ∀ W, VarR W → Calls Tryz.prog 37 #[.string sa] W (TwoR sn sden 0 W))
    (hden : (sden.toList == [49]) = true) :
    Calls Tryz.prog 9 #[.string sa, .int .u8 0] w fun e w' => e = .returned (.bool true) ∧ Below w.heap.size w w' := by
  subst hsz
  have HAL := Lib.hid ralive_any
  have HV := Lib.hid hv
  have HF := Lib.hid (rfits_one 400 (by omega) sa true hf)
  have J0 := Lib.hid H0
  have J1 := Lib.hid H1
  have J2 := Lib.hid H2
  have J3 := Lib.hid H3
  have J4 := Lib.hid H4
  have J5 := Lib.hid H5
  have J6 := Lib.hid H6
  have J7 := Lib.hid H7
  clear hf hv H0 H1 H2 H3 H4 H5 H6 H7
  go_enter Tryz.func9, Tryz.ntmps9
  go_wp2_with (first
    | (go_at_call 22; refine (HAL.out _ HV.out).mono ?_; rintro e w0 ⟨rfl, b0⟩; have B0 := Lib.hid b0; clear b0)
    | (go_at_call 34; refine (HF.out _ _).mono ?_; rintro e u0 ⟨rfl, b⟩; have D0 := Lib.hid (bt (bt B0.out ((Below.refl _ w0).alloc (Nat.le_refl _) _)) b); clear b)
    | (go_at_call 21; refine (J0.out _ (HV.out.below D0.out)).mono ?_; rintro e u1 ⟨rfl, b⟩; have D1 := Lib.hid (bt D0.out b); clear b)
    | (go_at_call 35; refine (J1.out _ (HV.out.below D1.out)).mono ?_; rintro e u2 ⟨rfl, b⟩; have D2 := Lib.hid (bt D1.out b); clear b)
    | (go_at_call 36; refine (J2.out _).mono ?_; rintro e u3 ⟨rfl, rfl⟩)
    | (go_at_call 15; (with_reducible refine (J3.out _ (HV.out.below D2.out)).mono ?_); rintro e u4 ⟨rfl, b⟩; have D4 := Lib.hid (bt D2.out b); clear b)
    | (go_at_call 15; (with_reducible refine (J4.out _ (HV.out.below D4.out)).mono ?_); rintro e u5 ⟨rfl, b⟩; have D5 := Lib.hid (bt D4.out b); clear b)
    | (go_at_call 15; (with_reducible refine (J5.out _ (HV.out.below D5.out)).mono ?_); rintro e u6 ⟨rfl, b⟩; have D6 := Lib.hid (bt D5.out b); clear b)
    | (go_at_call 15; (with_reducible refine (J6.out _ (HV.out.below D6.out)).mono ?_); rintro e u7 ⟨rfl, b⟩; have D7 := Lib.hid (bt D6.out b); clear b)
    | (go_at_call 37; refine (J7.out _ (HV.out.below D7.out)).mono ?_; rintro e u8 ⟨rfl, b⟩; have D8 := Lib.hid (bt D7.out b); clear b))
  go_ret
  exact ⟨rfl, D8.out⟩
set_option maxRecDepth 100000 in
set_option maxHeartbeats 6400000 in
theorem near_0_z1 (sa sd sz sn sden : ByteArray) (w : World) (hv : VarR w) (hf : fitR 400 [sa] = true)
    (hb0 : 0 < sd.size) (hb1 : ((sd[0].toNat : Int) == 45) = false) (hsz : sd = sz) (hne : (sd.toList == []) = false)
    (H0 : ∀ W, VarR W → Calls Tryz.prog 21 #[.string sa, .int .u8 0] W (StE sa 0 W))
    (H1 : ∀ W, VarR W → Calls Tryz.prog 35 #[.func (.func 25) #[] #[], .string sa, .string sa] W (StrR sd W))
    (H2 : ∀ W, Calls Tryz.prog 36 #[.string sa] W (IntR 0 W))
    (H3 : ∀ W, VarR W → Calls Tryz.prog 15 #[.string sz, .string ⟨#[49]⟩] W (CmE (-1) 0 W))
    (H4 : ∀ W, VarR W → Calls Tryz.prog 15 #[.string sz, .string ⟨#[49, 47, 50]⟩] W (CmE (-1) 0 W))
    (H5 : ∀ W, VarR W → Calls Tryz.prog 15 #[.string sd, .string ⟨#[48]⟩] W (CmE 0 0 W))
    (H6 : ∀ W, VarR W → Calls Tryz.prog 15 #[.string sa, .string ⟨#[48]⟩] W (CmE 0 0 W))
    (H7 : ∀ W, VarR W → Calls Tryz.prog 37 #[.string sa] W (TwoR sn sden 0 W))
    (hden : (sden.toList == [49]) = true) :
    Calls Tryz.prog 9 #[.string sa, .int .u8 0] w fun e w' => e = .returned (.bool true) ∧ Below w.heap.size w w' := by
  subst hsz
  have HAL := Lib.hid ralive_any
  have HV := Lib.hid hv
  have HF := Lib.hid (rfits_one 400 (by omega) sa true hf)
  have J0 := Lib.hid H0
  have J1 := Lib.hid H1
  have J2 := Lib.hid H2
  have J3 := Lib.hid H3
  have J4 := Lib.hid H4
  have J5 := Lib.hid H5
  have J6 := Lib.hid H6
  have J7 := Lib.hid H7
  clear hf hv H0 H1 H2 H3 H4 H5 H6 H7
  go_enter Tryz.func9, Tryz.ntmps9
  go_wp2_with (first
    | (go_at_call 22; refine (HAL.out _ HV.out).mono ?_; rintro e w0 ⟨rfl, b0⟩; have B0 := Lib.hid b0; clear b0)
    | (go_at_call 34; refine (HF.out _ _).mono ?_; rintro e u0 ⟨rfl, b⟩; have D0 := Lib.hid (bt (bt B0.out ((Below.refl _ w0).alloc (Nat.le_refl _) _)) b); clear b)
    | (go_at_call 21; refine (J0.out _ (HV.out.below D0.out)).mono ?_; rintro e u1 ⟨rfl, b⟩; have D1 := Lib.hid (bt D0.out b); clear b)
    | (go_at_call 35; refine (J1.out _ (HV.out.below D1.out)).mono ?_; rintro e u2 ⟨rfl, b⟩; have D2 := Lib.hid (bt D1.out b); clear b)
    | (go_at_call 36; refine (J2.out _).mono ?_; rintro e u3 ⟨rfl, rfl⟩)
    | (go_at_call 15; (with_reducible refine (J3.out _ (HV.out.below D2.out)).mono ?_); rintro e u4 ⟨rfl, b⟩; have D4 := Lib.hid (bt D2.out b); clear b)
    | (go_at_call 15; (with_reducible refine (J4.out _ (HV.out.below D4.out)).mono ?_); rintro e u5 ⟨rfl, b⟩; have D5 := Lib.hid (bt D4.out b); clear b)
    | (go_at_call 15; (with_reducible refine (J5.out _ (HV.out.below D5.out)).mono ?_); rintro e u6 ⟨rfl, b⟩; have D6 := Lib.hid (bt D5.out b); clear b)
    | (go_at_call 15; (with_reducible refine (J6.out _ (HV.out.below D6.out)).mono ?_); rintro e u7 ⟨rfl, b⟩; have D7 := Lib.hid (bt D6.out b); clear b)
    | (go_at_call 37; refine (J7.out _ (HV.out.below D7.out)).mono ?_; rintro e u8 ⟨rfl, b⟩; have D8 := Lib.hid (bt D7.out b); clear b))
  go_ret
  exact ⟨rfl, D8.out⟩
set_option maxRecDepth 100000 in
set_option maxHeartbeats 6400000 in
theorem near_0_z2 (sa sd sz sn sden : ByteArray) (w : World) (hv : VarR w) (hf : fitR 400 [sa] = true)
    (hb0 : 0 < sd.size) (hb1 : ((sd[0].toNat : Int) == 45) = false) (hsz : sd = sz) (hne : (sd.toList == []) = false)
    (H0 : ∀ W, VarR W → Calls Tryz.prog 21 #[.string sa, .int .u8 0] W (StE sa 0 W))
    (H1 : ∀ W, VarR W → Calls Tryz.prog 35 #[.func (.func 25) #[] #[], .string sa, .string sa] W (StrR sd W))
    (H2 : ∀ W, Calls Tryz.prog 36 #[.string sa] W (IntR 0 W))
    (H3 : ∀ W, VarR W → Calls Tryz.prog 15 #[.string sz, .string ⟨#[49]⟩] W (CmE (-1) 0 W))
    (H4 : ∀ W, VarR W → Calls Tryz.prog 15 #[.string sz, .string ⟨#[49, 47, 50]⟩] W (CmE (-1) 0 W))
    (H5 : ∀ W, VarR W → Calls Tryz.prog 15 #[.string sd, .string ⟨#[48]⟩] W (CmE 0 0 W))
    (H6 : ∀ W, VarR W → Calls Tryz.prog 15 #[.string sa, .string ⟨#[48]⟩] W (CmE 1 0 W))
    (H7 : ∀ W, VarR W → Calls Tryz.prog 37 #[.string sa] W (TwoR sn sden 0 W))
    (hden : (sden.toList == [49]) = true) :
    Calls Tryz.prog 9 #[.string sa, .int .u8 0] w fun e w' => e = .returned (.bool true) ∧ Below w.heap.size w w' := by
  subst hsz
  have HAL := Lib.hid ralive_any
  have HV := Lib.hid hv
  have HF := Lib.hid (rfits_one 400 (by omega) sa true hf)
  have J0 := Lib.hid H0
  have J1 := Lib.hid H1
  have J2 := Lib.hid H2
  have J3 := Lib.hid H3
  have J4 := Lib.hid H4
  have J5 := Lib.hid H5
  have J6 := Lib.hid H6
  have J7 := Lib.hid H7
  clear hf hv H0 H1 H2 H3 H4 H5 H6 H7
  go_enter Tryz.func9, Tryz.ntmps9
  go_wp2_with (first
    | (go_at_call 22; refine (HAL.out _ HV.out).mono ?_; rintro e w0 ⟨rfl, b0⟩; have B0 := Lib.hid b0; clear b0)
    | (go_at_call 34; refine (HF.out _ _).mono ?_; rintro e u0 ⟨rfl, b⟩; have D0 := Lib.hid (bt (bt B0.out ((Below.refl _ w0).alloc (Nat.le_refl _) _)) b); clear b)
    | (go_at_call 21; refine (J0.out _ (HV.out.below D0.out)).mono ?_; rintro e u1 ⟨rfl, b⟩; have D1 := Lib.hid (bt D0.out b); clear b)
    | (go_at_call 35; refine (J1.out _ (HV.out.below D1.out)).mono ?_; rintro e u2 ⟨rfl, b⟩; have D2 := Lib.hid (bt D1.out b); clear b)
    | (go_at_call 36; refine (J2.out _).mono ?_; rintro e u3 ⟨rfl, rfl⟩)
    | (go_at_call 15; (with_reducible refine (J3.out _ (HV.out.below D2.out)).mono ?_); rintro e u4 ⟨rfl, b⟩; have D4 := Lib.hid (bt D2.out b); clear b)
    | (go_at_call 15; (with_reducible refine (J4.out _ (HV.out.below D4.out)).mono ?_); rintro e u5 ⟨rfl, b⟩; have D5 := Lib.hid (bt D4.out b); clear b)
    | (go_at_call 15; (with_reducible refine (J5.out _ (HV.out.below D5.out)).mono ?_); rintro e u6 ⟨rfl, b⟩; have D6 := Lib.hid (bt D5.out b); clear b)
    | (go_at_call 15; (with_reducible refine (J6.out _ (HV.out.below D6.out)).mono ?_); rintro e u7 ⟨rfl, b⟩; have D7 := Lib.hid (bt D6.out b); clear b)
    | (go_at_call 37; refine (J7.out _ (HV.out.below D7.out)).mono ?_; rintro e u8 ⟨rfl, b⟩; have D8 := Lib.hid (bt D7.out b); clear b))
  go_ret
  exact ⟨rfl, D8.out⟩
set_option maxRecDepth 100000 in
set_option maxHeartbeats 6400000 in
theorem near_1_0 (sa sr sd sz sn sden : ByteArray) (h : Int) (w : World) (hv : VarR w) (hf : fitR 400 [sa] = true)
    (hb0 : 0 < sd.size) (hb1 : ((sd[0].toNat : Int) == 45) = false) (hsz : sd = sz) (hne : (sd.toList == []) = false)
    (H0 : ∀ W, VarR W → Calls Tryz.prog 21 #[.string sa, .int .u8 1] W (StE sr 0 W))
    (H1 : ∀ W, VarR W → Calls Tryz.prog 35 #[.func (.func 25) #[] #[], .string sr, .string sa] W (StrR sd W))
    (H2 : ∀ W, Calls Tryz.prog 36 #[.string sr] W (IntR 0 W))
    (H3 : ∀ W, VarR W → Calls Tryz.prog 15 #[.string sz, .string ⟨#[49]⟩] W (CmE (-1) 0 W))
    (H4 : ∀ W, VarR W → Calls Tryz.prog 15 #[.string sz, .string ⟨#[49, 47, 50]⟩] W (CmE h 0 W))
    (H5 : ∀ W, VarR W → Calls Tryz.prog 15 #[.string sd, .string ⟨#[48]⟩] W (CmE 1 0 W))
    (H6 : ∀ W, VarR W → Calls Tryz.prog 15 #[.string sa, .string ⟨#[48]⟩] W (CmE 1 0 W))
    (H7 : ∀ W, VarR W → Calls Tryz.prog 37 #[.string sa] W (TwoR sn sden 0 W))
    (hden : (sden.toList == [49]) = false) :
    Calls Tryz.prog 9 #[.string sa, .int .u8 1] w fun e w' => e = .returned (.bool true) ∧ Below w.heap.size w w' := by
  subst hsz
  have HAL := Lib.hid ralive_any
  have HV := Lib.hid hv
  have HF := Lib.hid (rfits_one 400 (by omega) sa true hf)
  have J0 := Lib.hid H0
  have J1 := Lib.hid H1
  have J2 := Lib.hid H2
  have J3 := Lib.hid H3
  have J4 := Lib.hid H4
  have J5 := Lib.hid H5
  have J6 := Lib.hid H6
  have J7 := Lib.hid H7
  clear hf hv H0 H1 H2 H3 H4 H5 H6 H7
  go_enter Tryz.func9, Tryz.ntmps9
  go_wp2_with (first
    | (go_at_call 22; refine (HAL.out _ HV.out).mono ?_; rintro e w0 ⟨rfl, b0⟩; have B0 := Lib.hid b0; clear b0)
    | (go_at_call 34; refine (HF.out _ _).mono ?_; rintro e u0 ⟨rfl, b⟩; have D0 := Lib.hid (bt (bt B0.out ((Below.refl _ w0).alloc (Nat.le_refl _) _)) b); clear b)
    | (go_at_call 21; refine (J0.out _ (HV.out.below D0.out)).mono ?_; rintro e u1 ⟨rfl, b⟩; have D1 := Lib.hid (bt D0.out b); clear b)
    | (go_at_call 35; refine (J1.out _ (HV.out.below D1.out)).mono ?_; rintro e u2 ⟨rfl, b⟩; have D2 := Lib.hid (bt D1.out b); clear b)
    | (go_at_call 36; refine (J2.out _).mono ?_; rintro e u3 ⟨rfl, rfl⟩)
    | (go_at_call 15; (with_reducible refine (J3.out _ (HV.out.below D2.out)).mono ?_); rintro e u4 ⟨rfl, b⟩; have D4 := Lib.hid (bt D2.out b); clear b)
    | (go_at_call 15; (with_reducible refine (J4.out _ (HV.out.below D4.out)).mono ?_); rintro e u5 ⟨rfl, b⟩; have D5 := Lib.hid (bt D4.out b); clear b)
    | (go_at_call 15; (with_reducible refine (J5.out _ (HV.out.below D5.out)).mono ?_); rintro e u6 ⟨rfl, b⟩; have D6 := Lib.hid (bt D5.out b); clear b)
    | (go_at_call 15; (with_reducible refine (J6.out _ (HV.out.below D6.out)).mono ?_); rintro e u7 ⟨rfl, b⟩; have D7 := Lib.hid (bt D6.out b); clear b)
    | (go_at_call 37; refine (J7.out _ (HV.out.below D7.out)).mono ?_; rintro e u8 ⟨rfl, b⟩; have D8 := Lib.hid (bt D7.out b); clear b))
  go_ret
  exact ⟨rfl, D8.out⟩
set_option maxRecDepth 100000 in
set_option maxHeartbeats 6400000 in
theorem near_1_1 (sa sr sd sz sn sden : ByteArray) (h : Int) (w : World) (hv : VarR w) (hf : fitR 400 [sa] = true)
    (hb0 : 0 < sd.size) (hb1 : ((sd[0].toNat : Int) == 45) = true) (hext : sd.extract 1 sd.size = sz) (hne : (sd.toList == []) = false)
    (H0 : ∀ W, VarR W → Calls Tryz.prog 21 #[.string sa, .int .u8 1] W (StE sr 0 W))
    (H1 : ∀ W, VarR W → Calls Tryz.prog 35 #[.func (.func 25) #[] #[], .string sr, .string sa] W (StrR sd W))
    (H2 : ∀ W, Calls Tryz.prog 36 #[.string sr] W (IntR 0 W))
    (H3 : ∀ W, VarR W → Calls Tryz.prog 15 #[.string sz, .string ⟨#[49]⟩] W (CmE (-1) 0 W))
    (H4 : ∀ W, VarR W → Calls Tryz.prog 15 #[.string sz, .string ⟨#[49, 47, 50]⟩] W (CmE h 0 W))
    (H5 : ∀ W, VarR W → Calls Tryz.prog 15 #[.string sd, .string ⟨#[48]⟩] W (CmE (-1) 0 W))
    (H6 : ∀ W, VarR W → Calls Tryz.prog 15 #[.string sa, .string ⟨#[48]⟩] W (CmE (-1) 0 W))
    (H7 : ∀ W, VarR W → Calls Tryz.prog 37 #[.string sa] W (TwoR sn sden 0 W))
    (hden : (sden.toList == [49]) = false) :
    Calls Tryz.prog 9 #[.string sa, .int .u8 1] w fun e w' => e = .returned (.bool true) ∧ Below w.heap.size w w' := by
  have HAL := Lib.hid ralive_any
  have HV := Lib.hid hv
  have HF := Lib.hid (rfits_one 400 (by omega) sa true hf)
  have J0 := Lib.hid H0
  have J1 := Lib.hid H1
  have J2 := Lib.hid H2
  have J3 := Lib.hid H3
  have J4 := Lib.hid H4
  have J5 := Lib.hid H5
  have J6 := Lib.hid H6
  have J7 := Lib.hid H7
  have hsl : 1 ≤ sd.size := hb0
  clear hf hv H0 H1 H2 H3 H4 H5 H6 H7
  go_enter Tryz.func9, Tryz.ntmps9
  go_wp2_with (first
    | (go_at_call 22; refine (HAL.out _ HV.out).mono ?_; rintro e w0 ⟨rfl, b0⟩; have B0 := Lib.hid b0; clear b0)
    | (go_at_call 34; refine (HF.out _ _).mono ?_; rintro e u0 ⟨rfl, b⟩; have D0 := Lib.hid (bt (bt B0.out ((Below.refl _ w0).alloc (Nat.le_refl _) _)) b); clear b)
    | (go_at_call 21; refine (J0.out _ (HV.out.below D0.out)).mono ?_; rintro e u1 ⟨rfl, b⟩; have D1 := Lib.hid (bt D0.out b); clear b)
    | (go_at_call 35; refine (J1.out _ (HV.out.below D1.out)).mono ?_; rintro e u2 ⟨rfl, b⟩; have D2 := Lib.hid (bt D1.out b); clear b)
    | (go_at_call 36; refine (J2.out _).mono ?_; rintro e u3 ⟨rfl, rfl⟩)
    | (go_at_call 15; (with_reducible refine (J3.out _ (HV.out.below D2.out)).mono ?_); rintro e u4 ⟨rfl, b⟩; have D4 := Lib.hid (bt D2.out b); clear b)
    | (go_at_call 15; (with_reducible refine (J4.out _ (HV.out.below D4.out)).mono ?_); rintro e u5 ⟨rfl, b⟩; have D5 := Lib.hid (bt D4.out b); clear b)
    | (go_at_call 15; (with_reducible refine (J5.out _ (HV.out.below D5.out)).mono ?_); rintro e u6 ⟨rfl, b⟩; have D6 := Lib.hid (bt D5.out b); clear b)
    | (go_at_call 15; (with_reducible refine (J6.out _ (HV.out.below D6.out)).mono ?_); rintro e u7 ⟨rfl, b⟩; have D7 := Lib.hid (bt D6.out b); clear b)
    | (go_at_call 37; refine (J7.out _ (HV.out.below D7.out)).mono ?_; rintro e u8 ⟨rfl, b⟩; have D8 := Lib.hid (bt D7.out b); clear b))
  go_ret
  exact ⟨rfl, D8.out⟩
set_option maxRecDepth 100000 in
set_option maxHeartbeats 6400000 in
theorem near_1_z0 (sa sd sz sn sden : ByteArray) (w : World) (hv : VarR w) (hf : fitR 400 [sa] = true)
    (hb0 : 0 < sd.size) (hb1 : ((sd[0].toNat : Int) == 45) = false) (hsz : sd = sz) (hne : (sd.toList == []) = false)
    (H0 : ∀ W, VarR W → Calls Tryz.prog 21 #[.string sa, .int .u8 1] W (StE sa 0 W))
    (H1 : ∀ W, VarR W → Calls Tryz.prog 35 #[.func (.func 25) #[] #[], .string sa, .string sa] W (StrR sd W))
    (H2 : ∀ W, Calls Tryz.prog 36 #[.string sa] W (IntR 0 W))
    (H3 : ∀ W, VarR W → Calls Tryz.prog 15 #[.string sz, .string ⟨#[49]⟩] W (CmE (-1) 0 W))
    (H4 : ∀ W, VarR W → Calls Tryz.prog 15 #[.string sz, .string ⟨#[49, 47, 50]⟩] W (CmE (-1) 0 W))
    (H5 : ∀ W, VarR W → Calls Tryz.prog 15 #[.string sd, .string ⟨#[48]⟩] W (CmE 0 0 W))
    (H6 : ∀ W, VarR W → Calls Tryz.prog 15 #[.string sa, .string ⟨#[48]⟩] W (CmE (-1) 0 W))
    (H7 : ∀ W, VarR W → Calls Tryz.prog 37 #[.string sa] W (TwoR sn sden 0 W))
    (hden : (sden.toList == [49]) = true) :
    Calls Tryz.prog 9 #[.string sa, .int .u8 1] w fun e w' => e = .returned (.bool true) ∧ Below w.heap.size w w' := by
  subst hsz
  have HAL := Lib.hid ralive_any
  have HV := Lib.hid hv
  have HF := Lib.hid (rfits_one 400 (by omega) sa true hf)
  have J0 := Lib.hid H0
  have J1 := Lib.hid H1
  have J2 := Lib.hid H2
  have J3 := Lib.hid H3
  have J4 := Lib.hid H4
  have J5 := Lib.hid H5
  have J6 := Lib.hid H6
  have J7 := Lib.hid H7
  clear hf hv H0 H1 H2 H3 H4 H5 H6 H7
  go_enter Tryz.func9, Tryz.ntmps9
  go_wp2_with (first
    | (go_at_call 22; refine (HAL.out _ HV.out).mono ?_; rintro e w0 ⟨rfl, b0⟩; have B0 := Lib.hid b0; clear b0)
    | (go_at_call 34; refine (HF.out _ _).mono ?_; rintro e u0 ⟨rfl, b⟩; have D0 := Lib.hid (bt (bt B0.out ((Below.refl _ w0).alloc (Nat.le_refl _) _)) b); clear b)
    | (go_at_call 21; refine (J0.out _ (HV.out.below D0.out)).mono ?_; rintro e u1 ⟨rfl, b⟩; have D1 := Lib.hid (bt D0.out b); clear b)
    | (go_at_call 35; refine (J1.out _ (HV.out.below D1.out)).mono ?_; rintro e u2 ⟨rfl, b⟩; have D2 := Lib.hid (bt D1.out b); clear b)
    | (go_at_call 36; refine (J2.out _).mono ?_; rintro e u3 ⟨rfl, rfl⟩)
    | (go_at_call 15; (with_reducible refine (J3.out _ (HV.out.below D2.out)).mono ?_); rintro e u4 ⟨rfl, b⟩; have D4 := Lib.hid (bt D2.out b); clear b)
    | (go_at_call 15; (with_reducible refine (J4.out _ (HV.out.below D4.out)).mono ?_); rintro e u5 ⟨rfl, b⟩; have D5 := Lib.hid (bt D4.out b); clear b)
    | (go_at_call 15; (with_reducible refine (J5.out _ (HV.out.below D5.out)).mono ?_); rintro e u6 ⟨rfl, b⟩; have D6 := Lib.hid (bt D5.out b); clear b)
    | (go_at_call 15; (with_reducible refine (J6.out _ (HV.out.below D6.out)).mono ?_); rintro e u7 ⟨rfl, b⟩; have D7 := Lib.hid (bt D6.out b); clear b)
    | (go_at_call 37; refine (J7.out _ (HV.out.below D7.out)).mono ?_; rintro e u8 ⟨rfl, b⟩; have D8 := Lib.hid (bt D7.out b); clear b))
  go_ret
  exact ⟨rfl, D8.out⟩
set_option maxRecDepth 100000 in
set_option maxHeartbeats 6400000 in
theorem near_1_z1 (sa sd sz sn sden : ByteArray) (w : World) (hv : VarR w) (hf : fitR 400 [sa] = true)
    (hb0 : 0 < sd.size) (hb1 : ((sd[0].toNat : Int) == 45) = false) (hsz : sd = sz) (hne : (sd.toList == []) = false)
    (H0 : ∀ W, VarR W → Calls Tryz.prog 21 #[.string sa, .int .u8 1] W (StE sa 0 W))
    (H1 : ∀ W, VarR W → Calls Tryz.prog 35 #[.func (.func 25) #[] #[], .string sa, .string sa] W (StrR sd W))
    (H2 : ∀ W, Calls Tryz.prog 36 #[.string sa] W (IntR 0 W))
    (H3 : ∀ W, VarR W → Calls Tryz.prog 15 #[.string sz, .string ⟨#[49]⟩] W (CmE (-1) 0 W))
    (H4 : ∀ W, VarR W → Calls Tryz.prog 15 #[.string sz, .string ⟨#[49, 47, 50]⟩] W (CmE (-1) 0 W))
    (H5 : ∀ W, VarR W → Calls Tryz.prog 15 #[.string sd, .string ⟨#[48]⟩] W (CmE 0 0 W))
    (H6 : ∀ W, VarR W → Calls Tryz.prog 15 #[.string sa, .string ⟨#[48]⟩] W (CmE 0 0 W))
    (H7 : ∀ W, VarR W → Calls Tryz.prog 37 #[.string sa] W (TwoR sn sden 0 W))
    (hden : (sden.toList == [49]) = true) :
    Calls Tryz.prog 9 #[.string sa, .int .u8 1] w fun e w' => e = .returned (.bool true) ∧ Below w.heap.size w w' := by
  subst hsz
  have HAL := Lib.hid ralive_any
  have HV := Lib.hid hv
  have HF := Lib.hid (rfits_one 400 (by omega) sa true hf)
  have J0 := Lib.hid H0
  have J1 := Lib.hid H1
  have J2 := Lib.hid H2
  have J3 := Lib.hid H3
  have J4 := Lib.hid H4
  have J5 := Lib.hid H5
  have J6 := Lib.hid H6
  have J7 := Lib.hid H7
  clear hf hv H0 H1 H2 H3 H4 H5 H6 H7
  go_enter Tryz.func9, Tryz.ntmps9
  go_wp2_with (first
    | (go_at_call 22; refine (HAL.out _ HV.out).mono ?_; rintro e w0 ⟨rfl, b0⟩; have B0 := Lib.hid b0; clear b0)
    | (go_at_call 34; refine (HF.out _ _).mono ?_; rintro e u0 ⟨rfl, b⟩; have D0 := Lib.hid (bt (bt B0.out ((Below.refl _ w0).alloc (Nat.le_refl _) _)) b); clear b)
    | (go_at_call 21; refine (J0.out _ (HV.out.below D0.out)).mono ?_; rintro e u1 ⟨rfl, b⟩; have D1 := Lib.hid (bt D0.out b); clear b)
    | (go_at_call 35; refine (J1.out _ (HV.out.below D1.out)).mono ?_; rintro e u2 ⟨rfl, b⟩; have D2 := Lib.hid (bt D1.out b); clear b)
    | (go_at_call 36; refine (J2.out _).mono ?_; rintro e u3 ⟨rfl, rfl⟩)
    | (go_at_call 15; (with_reducible refine (J3.out _ (HV.out.below D2.out)).mono ?_); rintro e u4 ⟨rfl, b⟩; have D4 := Lib.hid (bt D2.out b); clear b)
    | (go_at_call 15; (with_reducible refine (J4.out _ (HV.out.below D4.out)).mono ?_); rintro e u5 ⟨rfl, b⟩; have D5 := Lib.hid (bt D4.out b); clear b)
    | (go_at_call 15; (with_reducible refine (J5.out _ (HV.out.below D5.out)).mono ?_); rintro e u6 ⟨rfl, b⟩; have D6 := Lib.hid (bt D5.out b); clear b)
    | (go_at_call 15; (with_reducible refine (J6.out _ (HV.out.below D6.out)).mono ?_); rintro e u7 ⟨rfl, b⟩; have D7 := Lib.hid (bt D6.out b); clear b)
    | (go_at_call 37; refine (J7.out _ (HV.out.below D7.out)).mono ?_; rintro e u8 ⟨rfl, b⟩; have D8 := Lib.hid (bt D7.out b); clear b))
  go_ret
  exact ⟨rfl, D8.out⟩
set_option maxRecDepth 100000 in
set_option maxHeartbeats 6400000 in
theorem near_1_z2 (sa sd sz sn sden : ByteArray) (w : World) (hv : VarR w) (hf : fitR 400 [sa] = true)
    (hb0 : 0 < sd.size) (hb1 : ((sd[0].toNat : Int) == 45) = false) (hsz : sd = sz) (hne : (sd.toList == []) = false)
    (H0 : ∀ W, VarR W → Calls Tryz.prog 21 #[.string sa, .int .u8 1] W (StE sa 0 W))
    (H1 : ∀ W, VarR W → Calls Tryz.prog 35 #[.func (.func 25) #[] #[], .string sa, .string sa] W (StrR sd W))
    (H2 : ∀ W, Calls Tryz.prog 36 #[.string sa] W (IntR 0 W))
    (H3 : ∀ W, VarR W → Calls Tryz.prog 15 #[.string sz, .string ⟨#[49]⟩] W (CmE (-1) 0 W))
    (H4 : ∀ W, VarR W → Calls Tryz.prog 15 #[.string sz, .string ⟨#[49, 47, 50]⟩] W (CmE (-1) 0 W))
    (H5 : ∀ W, VarR W → Calls Tryz.prog 15 #[.string sd, .string ⟨#[48]⟩] W (CmE 0 0 W))
    (H6 : ∀ W, VarR W → Calls Tryz.prog 15 #[.string sa, .string ⟨#[48]⟩] W (CmE 1 0 W))
    (H7 : ∀ W, VarR W → Calls Tryz.prog 37 #[.string sa] W (TwoR sn sden 0 W))
    (hden : (sden.toList == [49]) = true) :
    Calls Tryz.prog 9 #[.string sa, .int .u8 1] w fun e w' => e = .returned (.bool true) ∧ Below w.heap.size w w' := by
  subst hsz
  have HAL := Lib.hid ralive_any
  have HV := Lib.hid hv
  have HF := Lib.hid (rfits_one 400 (by omega) sa true hf)
  have J0 := Lib.hid H0
  have J1 := Lib.hid H1
  have J2 := Lib.hid H2
  have J3 := Lib.hid H3
  have J4 := Lib.hid H4
  have J5 := Lib.hid H5
  have J6 := Lib.hid H6
  have J7 := Lib.hid H7
  clear hf hv H0 H1 H2 H3 H4 H5 H6 H7
  go_enter Tryz.func9, Tryz.ntmps9
  go_wp2_with (first
    | (go_at_call 22; refine (HAL.out _ HV.out).mono ?_; rintro e w0 ⟨rfl, b0⟩; have B0 := Lib.hid b0; clear b0)
    | (go_at_call 34; refine (HF.out _ _).mono ?_; rintro e u0 ⟨rfl, b⟩; have D0 := Lib.hid (bt (bt B0.out ((Below.refl _ w0).alloc (Nat.le_refl _) _)) b); clear b)
    | (go_at_call 21; refine (J0.out _ (HV.out.below D0.out)).mono ?_; rintro e u1 ⟨rfl, b⟩; have D1 := Lib.hid (bt D0.out b); clear b)
    | (go_at_call 35; refine (J1.out _ (HV.out.below D1.out)).mono ?_; rintro e u2 ⟨rfl, b⟩; have D2 := Lib.hid (bt D1.out b); clear b)
    | (go_at_call 36; refine (J2.out _).mono ?_; rintro e u3 ⟨rfl, rfl⟩)
    | (go_at_call 15; (with_reducible refine (J3.out _ (HV.out.below D2.out)).mono ?_); rintro e u4 ⟨rfl, b⟩; have D4 := Lib.hid (bt D2.out b); clear b)
    | (go_at_call 15; (with_reducible refine (J4.out _ (HV.out.below D4.out)).mono ?_); rintro e u5 ⟨rfl, b⟩; have D5 := Lib.hid (bt D4.out b); clear b)
    | (go_at_call 15; (with_reducible refine (J5.out _ (HV.out.below D5.out)).mono ?_); rintro e u6 ⟨rfl, b⟩; have D6 := Lib.hid (bt D5.out b); clear b)
    | (go_at_call 15; (with_reducible refine (J6.out _ (HV.out.below D6.out)).mono ?_); rintro e u7 ⟨rfl, b⟩; have D7 := Lib.hid (bt D6.out b); clear b)
    | (go_at_call 37; refine (J7.out _ (HV.out.below D7.out)).mono ?_; rintro e u8 ⟨rfl, b⟩; have D8 := Lib.hid (bt D7.out b); clear b))
  go_ret
  exact ⟨rfl, D8.out⟩
set_option maxRecDepth 100000 in
set_option maxHeartbeats 6400000 in
theorem near_4_0 (sa sr sd sz sn sden : ByteArray) (g : Int) (h : Int) (w : World) (hv : VarR w) (hf : fitR 400 [sa] = true)
    (hb0 : 0 < sd.size) (hb1 : ((sd[0].toNat : Int) == 45) = true) (hext : sd.extract 1 sd.size = sz) (hne : (sd.toList == []) = false)
    (H0 : ∀ W, VarR W → Calls Tryz.prog 21 #[.string sa, .int .u8 4] W (StE sr 0 W))
    (H1 : ∀ W, VarR W → Calls Tryz.prog 35 #[.func (.func 25) #[] #[], .string sr, .string sa] W (StrR sd W))
    (H2 : ∀ W, Calls Tryz.prog 36 #[.string sr] W (IntR 0 W))
    (H3 : ∀ W, VarR W → Calls Tryz.prog 15 #[.string sz, .string ⟨#[49]⟩] W (CmE (-1) 0 W))
    (H4 : ∀ W, VarR W → Calls Tryz.prog 15 #[.string sz, .string ⟨#[49, 47, 50]⟩] W (CmE h 0 W))
    (H5 : ∀ W, VarR W → Calls Tryz.prog 15 #[.string sd, .string ⟨#[48]⟩] W (CmE (-1) 0 W))
    (H6 : ∀ W, VarR W → Calls Tryz.prog 15 #[.string sa, .string ⟨#[48]⟩] W (CmE g 0 W))
    (H7 : ∀ W, VarR W → Calls Tryz.prog 37 #[.string sa] W (TwoR sn sden 0 W))
    (hden : (sden.toList == [49]) = false) :
    Calls Tryz.prog 9 #[.string sa, .int .u8 4] w fun e w' => e = .returned (.bool true) ∧ Below w.heap.size w w' := by
  have HAL := Lib.hid ralive_any
  have HV := Lib.hid hv
  have HF := Lib.hid (rfits_one 400 (by omega) sa true hf)
  have J0 := Lib.hid H0
  have J1 := Lib.hid H1
  have J2 := Lib.hid H2
  have J3 := Lib.hid H3
  have J4 := Lib.hid H4
  have J5 := Lib.hid H5
  have J6 := Lib.hid H6
  have J7 := Lib.hid H7
  have hsl : 1 ≤ sd.size := hb0
  clear hf hv H0 H1 H2 H3 H4 H5 H6 H7
  go_enter Tryz.func9, Tryz.ntmps9
  go_wp2_with (first
    | (go_at_call 22; refine (HAL.out _ HV.out).mono ?_; rintro e w0 ⟨rfl, b0⟩; have B0 := Lib.hid b0; clear b0)
    | (go_at_call 34; refine (HF.out _ _).mono ?_; rintro e u0 ⟨rfl, b⟩; have D0 := Lib.hid (bt (bt B0.out ((Below.refl _ w0).alloc (Nat.le_refl _) _)) b); clear b)
    | (go_at_call 21; refine (J0.out _ (HV.out.below D0.out)).mono ?_; rintro e u1 ⟨rfl, b⟩; have D1 := Lib.hid (bt D0.out b); clear b)
    | (go_at_call 35; refine (J1.out _ (HV.out.below D1.out)).mono ?_; rintro e u2 ⟨rfl, b⟩; have D2 := Lib.hid (bt D1.out b); clear b)
    | (go_at_call 36; refine (J2.out _).mono ?_; rintro e u3 ⟨rfl, rfl⟩)
    | (go_at_call 15; (with_reducible refine (J3.out _ (HV.out.below D2.out)).mono ?_); rintro e u4 ⟨rfl, b⟩; have D4 := Lib.hid (bt D2.out b); clear b)
    | (go_at_call 15; (with_reducible refine (J4.out _ (HV.out.below D4.out)).mono ?_); rintro e u5 ⟨rfl, b⟩; have D5 := Lib.hid (bt D4.out b); clear b)
    | (go_at_call 15; (with_reducible refine (J5.out _ (HV.out.below D5.out)).mono ?_); rintro e u6 ⟨rfl, b⟩; have D6 := Lib.hid (bt D5.out b); clear b)
    | (go_at_call 15; (with_reducible refine (J6.out _ (HV.out.below D6.out)).mono ?_); rintro e u7 ⟨rfl, b⟩; have D7 := Lib.hid (bt D6.out b); clear b)
    | (go_at_call 37; refine (J7.out _ (HV.out.below D7.out)).mono ?_; rintro e u8 ⟨rfl, b⟩; have D8 := Lib.hid (bt D7.out b); clear b))
  go_ret
  exact ⟨rfl, D8.out⟩
set_option maxRecDepth 100000 in
set_option maxHeartbeats 6400000 in
theorem near_4_z (sa sd sz sn sden : ByteArray) (g : Int) (w : World) (hv : VarR w) (hf : fitR 400 [sa] = true)
    (hb0 : 0 < sd.size) (hb1 : ((sd[0].toNat : Int) == 45) = false) (hsz : sd = sz) (hne : (sd.toList == []) = false)
    (H0 : ∀ W, VarR W → Calls Tryz.prog 21 #[.string sa, .int .u8 4] W (StE sa 0 W))
    (H1 : ∀ W, VarR W → Calls Tryz.prog 35 #[.func (.func 25) #[] #[], .string sa, .string sa] W (StrR sd W))
    (H2 : ∀ W, Calls Tryz.prog 36 #[.string sa] W (IntR 0 W))
    (H3 : ∀ W, VarR W → Calls Tryz.prog 15 #[.string sz, .string ⟨#[49]⟩] W (CmE (-1) 0 W))
    (H4 : ∀ W, VarR W → Calls Tryz.prog 15 #[.string sz, .string ⟨#[49, 47, 50]⟩] W (CmE (-1) 0 W))
    (H5 : ∀ W, VarR W → Calls Tryz.prog 15 #[.string sd, .string ⟨#[48]⟩] W (CmE 0 0 W))
    (H6 : ∀ W, VarR W → Calls Tryz.prog 15 #[.string sa, .string ⟨#[48]⟩] W (CmE g 0 W))
    (H7 : ∀ W, VarR W → Calls Tryz.prog 37 #[.string sa] W (TwoR sn sden 0 W))
    (hden : (sden.toList == [49]) = true) :
    Calls Tryz.prog 9 #[.string sa, .int .u8 4] w fun e w' => e = .returned (.bool true) ∧ Below w.heap.size w w' := by
  subst hsz
  have HAL := Lib.hid ralive_any
  have HV := Lib.hid hv
  have HF := Lib.hid (rfits_one 400 (by omega) sa true hf)
  have J0 := Lib.hid H0
  have J1 := Lib.hid H1
  have J2 := Lib.hid H2
  have J3 := Lib.hid H3
  have J4 := Lib.hid H4
  have J5 := Lib.hid H5
  have J6 := Lib.hid H6
  have J7 := Lib.hid H7
  clear hf hv H0 H1 H2 H3 H4 H5 H6 H7
  go_enter Tryz.func9, Tryz.ntmps9
  go_wp2_with (first
    | (go_at_call 22; refine (HAL.out _ HV.out).mono ?_; rintro e w0 ⟨rfl, b0⟩; have B0 := Lib.hid b0; clear b0)
    | (go_at_call 34; refine (HF.out _ _).mono ?_; rintro e u0 ⟨rfl, b⟩; have D0 := Lib.hid (bt (bt B0.out ((Below.refl _ w0).alloc (Nat.le_refl _) _)) b); clear b)
    | (go_at_call 21; refine (J0.out _ (HV.out.below D0.out)).mono ?_; rintro e u1 ⟨rfl, b⟩; have D1 := Lib.hid (bt D0.out b); clear b)
    | (go_at_call 35; refine (J1.out _ (HV.out.below D1.out)).mono ?_; rintro e u2 ⟨rfl, b⟩; have D2 := Lib.hid (bt D1.out b); clear b)
    | (go_at_call 36; refine (J2.out _).mono ?_; rintro e u3 ⟨rfl, rfl⟩)
    | (go_at_call 15; (with_reducible refine (J3.out _ (HV.out.below D2.out)).mono ?_); rintro e u4 ⟨rfl, b⟩; have D4 := Lib.hid (bt D2.out b); clear b)
    | (go_at_call 15; (with_reducible refine (J4.out _ (HV.out.below D4.out)).mono ?_); rintro e u5 ⟨rfl, b⟩; have D5 := Lib.hid (bt D4.out b); clear b)
    | (go_at_call 15; (with_reducible refine (J5.out _ (HV.out.below D5.out)).mono ?_); rintro e u6 ⟨rfl, b⟩; have D6 := Lib.hid (bt D5.out b); clear b)
    | (go_at_call 15; (with_reducible refine (J6.out _ (HV.out.below D6.out)).mono ?_); rintro e u7 ⟨rfl, b⟩; have D7 := Lib.hid (bt D6.out b); clear b)
    | (go_at_call 37; refine (J7.out _ (HV.out.below D7.out)).mono ?_; rintro e u8 ⟨rfl, b⟩; have D8 := Lib.hid (bt D7.out b); clear b))
  go_ret
  exact ⟨rfl, D8.out⟩
set_option maxRecDepth 100000 in
set_option maxHeartbeats 6400000 in
theorem near_2_a0 (sa sr sd sz sn sden : ByteArray) (g : Int) (w : World) (hv : VarR w) (hf : fitR 400 [sa] = true)
    (hb0 : 0 < sd.size) (hb1 : ((sd[0].toNat : Int) == 45) = true) (hext : sd.extract 1 sd.size = sz) (hne : (sd.toList == []) = false)
    (H0 : ∀ W, VarR W → Calls Tryz.prog 21 #[.string sa, .int .u8 2] W (StE sr 0 W))
    (H1 : ∀ W, VarR W → Calls Tryz.prog 35 #[.func (.func 25) #[] #[], .string sr, .string sa] W (StrR sd W))
    (H2 : ∀ W, Calls Tryz.prog 36 #[.string sr] W (IntR 0 W))
    (H3 : ∀ W, VarR W → Calls Tryz.prog 15 #[.string sz, .string ⟨#[49]⟩] W (CmE (-1) 0 W))
    (H4 : ∀ W, VarR W → Calls Tryz.prog 15 #[.string sz, .string ⟨#[49, 47, 50]⟩] W (CmE (-1) 0 W))
    (H5 : ∀ W, VarR W → Calls Tryz.prog 15 #[.string sd, .string ⟨#[48]⟩] W (CmE (-1) 0 W))
    (H6 : ∀ W, VarR W → Calls Tryz.prog 15 #[.string sa, .string ⟨#[48]⟩] W (CmE g 0 W))
    (H7 : ∀ W, VarR W → Calls Tryz.prog 37 #[.string sa] W (TwoR sn sden 0 W))
    (hden : (sden.toList == [49]) = false) :
    Calls Tryz.prog 9 #[.string sa, .int .u8 2] w fun e w' => e = .returned (.bool true) ∧ Below w.heap.size w w' := by
  have HAL := Lib.hid ralive_any
  have HV := Lib.hid hv
  have HF := Lib.hid (rfits_one 400 (by omega) sa true hf)
  have J0 := Lib.hid H0
  have J1 := Lib.hid H1
  have J2 := Lib.hid H2
  have J3 := Lib.hid H3
  have J4 := Lib.hid H4
  have J5 := Lib.hid H5
  have J6 := Lib.hid H6
  have J7 := Lib.hid H7
  have hsl : 1 ≤ sd.size := hb0
  clear hf hv H0 H1 H2 H3 H4 H5 H6 H7
  go_enter Tryz.func9, Tryz.ntmps9
  go_wp2_with (first
    | (go_at_call 22; refine (HAL.out _ HV.out).mono ?_; rintro e w0 ⟨rfl, b0⟩; have B0 := Lib.hid b0; clear b0)
    | (go_at_call 34; refine (HF.out _ _).mono ?_; rintro e u0 ⟨rfl, b⟩; have D0 := Lib.hid (bt (bt B0.out ((Below.refl _ w0).alloc (Nat.le_refl _) _)) b); clear b)
    | (go_at_call 21; refine (J0.out _ (HV.out.below D0.out)).mono ?_; rintro e u1 ⟨rfl, b⟩; have D1 := Lib.hid (bt D0.out b); clear b)
    | (go_at_call 35; refine (J1.out _ (HV.out.below D1.out)).mono ?_; rintro e u2 ⟨rfl, b⟩; have D2 := Lib.hid (bt D1.out b); clear b)
    | (go_at_call 36; refine (J2.out _).mono ?_; rintro e u3 ⟨rfl, rfl⟩)
    | (go_at_call 15; (with_reducible refine (J3.out _ (HV.out.below D2.out)).mono ?_); rintro e u4 ⟨rfl, b⟩; have D4 := Lib.hid (bt D2.out b); clear b)
    | (go_at_call 15; (with_reducible refine (J4.out _ (HV.out.below D4.out)).mono ?_); rintro e u5 ⟨rfl, b⟩; have D5 := Lib.hid (bt D4.out b); clear b)
    | (go_at_call 15; (with_reducible refine (J5.out _ (HV.out.below D5.out)).mono ?_); rintro e u6 ⟨rfl, b⟩; have D6 := Lib.hid (bt D5.out b); clear b)
    | (go_at_call 15; (with_reducible refine (J6.out _ (HV.out.below D6.out)).mono ?_); rintro e u7 ⟨rfl, b⟩; have D7 := Lib.hid (bt D6.out b); clear b)
    | (go_at_call 37; refine (J7.out _ (HV.out.below D7.out)).mono ?_; rintro e u8 ⟨rfl, b⟩; have D8 := Lib.hid (bt D7.out b); clear b))
  go_ret
  exact ⟨rfl, D8.out⟩
set_option maxRecDepth 100000 in
set_option maxHeartbeats 6400000 in
theorem near_2_a2 (sa sr sd sz sn sden : ByteArray) (g : Int) (w : World) (hv : VarR w) (hf : fitR 400 [sa] = true)
    (hb0 : 0 < sd.size) (hb1 : ((sd[0].toNat : Int) == 45) = false) (hsz : sd = sz) (hne : (sd.toList == []) = false)
    (H0 : ∀ W, VarR W → Calls Tryz.prog 21 #[.string sa, .int .u8 2] W (StE sr 0 W))
    (H1 : ∀ W, VarR W → Calls Tryz.prog 35 #[.func (.func 25) #[] #[], .string sr, .string sa] W (StrR sd W))
    (H2 : ∀ W, Calls Tryz.prog 36 #[.string sr] W (IntR 0 W))
    (H3 : ∀ W, VarR W → Calls Tryz.prog 15 #[.string sz, .string ⟨#[49]⟩] W (CmE (-1) 0 W))
    (H4 : ∀ W, VarR W → Calls Tryz.prog 15 #[.string sz, .string ⟨#[49, 47, 50]⟩] W (CmE (-1) 0 W))
    (H5 : ∀ W, VarR W → Calls Tryz.prog 15 #[.string sd, .string ⟨#[48]⟩] W (CmE 1 0 W))
    (H6 : ∀ W, VarR W → Calls Tryz.prog 15 #[.string sa, .string ⟨#[48]⟩] W (CmE g 0 W))
    (H7 : ∀ W, VarR W → Calls Tryz.prog 37 #[.string sa] W (TwoR sn sden 0 W))
    (hden : (sden.toList == [49]) = false) :
    Calls Tryz.prog 9 #[.string sa, .int .u8 2] w fun e w' => e = .returned (.bool true) ∧ Below w.heap.size w w' := by
  subst hsz
  have HAL := Lib.hid ralive_any
  have HV := Lib.hid hv
  have HF := Lib.hid (rfits_one 400 (by omega) sa true hf)
  have J0 := Lib.hid H0
  have J1 := Lib.hid H1
  have J2 := Lib.hid H2
  have J3 := Lib.hid H3
  have J4 := Lib.hid H4
  have J5 := Lib.hid H5
  have J6 := Lib.hid H6
  have J7 := Lib.hid H7
  clear hf hv H0 H1 H2 H3 H4 H5 H6 H7
  go_enter Tryz.func9, Tryz.ntmps9
  go_wp2_with (first
    | (go_at_call 22; refine (HAL.out _ HV.out).mono ?_; rintro e w0 ⟨rfl, b0⟩; have B0 := Lib.hid b0; clear b0)
    | (go_at_call 34; refine (HF.out _ _).mono ?_; rintro e u0 ⟨rfl, b⟩; have D0 := Lib.hid (bt (bt B0.out ((Below.refl _ w0).alloc (Nat.le_refl _) _)) b); clear b)
    | (go_at_call 21; refine (J0.out _ (HV.out.below D0.out)).mono ?_; rintro e u1 ⟨rfl, b⟩; have D1 := Lib.hid (bt D0.out b); clear b)
    | (go_at_call 35; refine (J1.out _ (HV.out.below D1.out)).mono ?_; rintro e u2 ⟨rfl, b⟩; have D2 := Lib.hid (bt D1.out b); clear b)
    | (go_at_call 36; refine (J2.out _).mono ?_; rintro e u3 ⟨rfl, rfl⟩)
    | (go_at_call 15; (with_reducible refine (J3.out _ (HV.out.below D2.out)).mono ?_); rintro e u4 ⟨rfl, b⟩; have D4 := Lib.hid (bt D2.out b); clear b)
    | (go_at_call 15; (with_reducible refine (J4.out _ (HV.out.below D4.out)).mono ?_); rintro e u5 ⟨rfl, b⟩; have D5 := Lib.hid (bt D4.out b); clear b)
    | (go_at_call 15; (with_reducible refine (J5.out _ (HV.out.below D5.out)).mono ?_); rintro e u6 ⟨rfl, b⟩; have D6 := Lib.hid (bt D5.out b); clear b)
    | (go_at_call 15; (with_reducible refine (J6.out _ (HV.out.below D6.out)).mono ?_); rintro e u7 ⟨rfl, b⟩; have D7 := Lib.hid (bt D6.out b); clear b)
    | (go_at_call 37; refine (J7.out _ (HV.out.below D7.out)).mono ?_; rintro e u8 ⟨rfl, b⟩; have D8 := Lib.hid (bt D7.out b); clear b))
  go_ret
  exact ⟨rfl, D8.out⟩
set_option maxRecDepth 100000 in
set_option maxHeartbeats 6400000 in
theorem near_2_b0 (sa sr sd sz sn sden : ByteArray) (w : World) (hv : VarR w) (hf : fitR 400 [sa] = true)
    (hb0 : 0 < sd.size) (hb1 : ((sd[0].toNat : Int) == 45) = false) (hsz : sd = sz) (hne : (sd.toList == []) = false)
    (H0 : ∀ W, VarR W → Calls Tryz.prog 21 #[.string sa, .int .u8 2] W (StE sr 0 W))
    (H1 : ∀ W, VarR W → Calls Tryz.prog 35 #[.func (.func 25) #[] #[], .string sr, .string sa] W (StrR sd W))
    (H2 : ∀ W, Calls Tryz.prog 36 #[.string sr] W (IntR 0 W))
    (H3 : ∀ W, VarR W → Calls Tryz.prog 15 #[.string sz, .string ⟨#[49]⟩] W (CmE (-1) 0 W))
    (H4 : ∀ W, VarR W → Calls Tryz.prog 15 #[.string sz, .string ⟨#[49, 47, 50]⟩] W (CmE 0 0 W))
    (H5 : ∀ W, VarR W → Calls Tryz.prog 15 #[.string sd, .string ⟨#[48]⟩] W (CmE 1 0 W))
    (H6 : ∀ W, VarR W → Calls Tryz.prog 15 #[.string sa, .string ⟨#[48]⟩] W (CmE 1 0 W))
    (H7 : ∀ W, VarR W → Calls Tryz.prog 37 #[.string sa] W (TwoR sn sden 0 W))
    (hden : (sden.toList == [49]) = false) :
    Calls Tryz.prog 9 #[.string sa, .int .u8 2] w fun e w' => e = .returned (.bool true) ∧ Below w.heap.size w w' := by
  subst hsz
  have HAL := Lib.hid ralive_any
  have HV := Lib.hid hv
  have HF := Lib.hid (rfits_one 400 (by omega) sa true hf)
  have J0 := Lib.hid H0
  have J1 := Lib.hid H1
  have J2 := Lib.hid H2
  have J3 := Lib.hid H3
  have J4 := Lib.hid H4
  have J5 := Lib.hid H5
  have J6 := Lib.hid H6
  have J7 := Lib.hid H7
  clear hf hv H0 H1 H2 H3 H4 H5 H6 H7
  go_enter Tryz.func9, Tryz.ntmps9
  go_wp2_with (first
    | (go_at_call 22; refine (HAL.out _ HV.out).mono ?_; rintro e w0 ⟨rfl, b0⟩; have B0 := Lib.hid b0; clear b0)
    | (go_at_call 34; refine (HF.out _ _).mono ?_; rintro e u0 ⟨rfl, b⟩; have D0 := Lib.hid (bt (bt B0.out ((Below.refl _ w0).alloc (Nat.le_refl _) _)) b); clear b)
    | (go_at_call 21; refine (J0.out _ (HV.out.below D0.out)).mono ?_; rintro e u1 ⟨rfl, b⟩; have D1 := Lib.hid (bt D0.out b); clear b)
    | (go_at_call 35; refine (J1.out _ (HV.out.below D1.out)).mono ?_; rintro e u2 ⟨rfl, b⟩; have D2 := Lib.hid (bt D1.out b); clear b)
    | (go_at_call 36; refine (J2.out _).mono ?_; rintro e u3 ⟨rfl, rfl⟩)
    | (go_at_call 15; (with_reducible refine (J3.out _ (HV.out.below D2.out)).mono ?_); rintro e u4 ⟨rfl, b⟩; have D4 := Lib.hid (bt D2.out b); clear b)
    | (go_at_call 15; (with_reducible refine (J4.out _ (HV.out.below D4.out)).mono ?_); rintro e u5 ⟨rfl, b⟩; have D5 := Lib.hid (bt D4.out b); clear b)
    | (go_at_call 15; (with_reducible refine (J5.out _ (HV.out.below D5.out)).mono ?_); rintro e u6 ⟨rfl, b⟩; have D6 := Lib.hid (bt D5.out b); clear b)
    | (go_at_call 15; (with_reducible refine (J6.out _ (HV.out.below D6.out)).mono ?_); rintro e u7 ⟨rfl, b⟩; have D7 := Lib.hid (bt D6.out b); clear b)
    | (go_at_call 37; refine (J7.out _ (HV.out.below D7.out)).mono ?_; rintro e u8 ⟨rfl, b⟩; have D8 := Lib.hid (bt D7.out b); clear b))
  go_ret
  exact ⟨rfl, D8.out⟩
set_option maxRecDepth 100000 in
set_option maxHeartbeats 6400000 in
theorem near_2_b1 (sa sr sd sz sn sden : ByteArray) (w : World) (hv : VarR w) (hf : fitR 400 [sa] = true)
    (hb0 : 0 < sd.size) (hb1 : ((sd[0].toNat : Int) == 45) = true) (hext : sd.extract 1 sd.size = sz) (hne : (sd.toList == []) = false)
    (H0 : ∀ W, VarR W → Calls Tryz.prog 21 #[.string sa, .int .u8 2] W (StE sr 0 W))
    (H1 : ∀ W, VarR W → Calls Tryz.prog 35 #[.func (.func 25) #[] #[], .string sr, .string sa] W (StrR sd W))
    (H2 : ∀ W, Calls Tryz.prog 36 #[.string sr] W (IntR 0 W))
    (H3 : ∀ W, VarR W → Calls Tryz.prog 15 #[.string sz, .string ⟨#[49]⟩] W (CmE (-1) 0 W))
    (H4 : ∀ W, VarR W → Calls Tryz.prog 15 #[.string sz, .string ⟨#[49, 47, 50]⟩] W (CmE 0 0 W))
    (H5 : ∀ W, VarR W → Calls Tryz.prog 15 #[.string sd, .string ⟨#[48]⟩] W (CmE (-1) 0 W))
    (H6 : ∀ W, VarR W → Calls Tryz.prog 15 #[.string sa, .string ⟨#[48]⟩] W (CmE (-1) 0 W))
    (H7 : ∀ W, VarR W → Calls Tryz.prog 37 #[.string sa] W (TwoR sn sden 0 W))
    (hden : (sden.toList == [49]) = false) :
    Calls Tryz.prog 9 #[.string sa, .int .u8 2] w fun e w' => e = .returned (.bool true) ∧ Below w.heap.size w w' := by
  have HAL := Lib.hid ralive_any
  have HV := Lib.hid hv
  have HF := Lib.hid (rfits_one 400 (by omega) sa true hf)
  have J0 := Lib.hid H0
  have J1 := Lib.hid H1
  have J2 := Lib.hid H2
  have J3 := Lib.hid H3
  have J4 := Lib.hid H4
  have J5 := Lib.hid H5
  have J6 := Lib.hid H6
  have J7 := Lib.hid H7
  have hsl : 1 ≤ sd.size := hb0
  clear hf hv H0 H1 H2 H3 H4 H5 H6 H7
  go_enter Tryz.func9, Tryz.ntmps9
  go_wp2_with (first
    | (go_at_call 22; refine (HAL.out _ HV.out).mono ?_; rintro e w0 ⟨rfl, b0⟩; have B0 := Lib.hid b0; clear b0)
    | (go_at_call 34; refine (HF.out _ _).mono ?_; rintro e u0 ⟨rfl, b⟩; have D0 := Lib.hid (bt (bt B0.out ((Below.refl _ w0).alloc (Nat.le_refl _) _)) b); clear b)
    | (go_at_call 21; refine (J0.out _ (HV.out.below D0.out)).mono ?_; rintro e u1 ⟨rfl, b⟩; have D1 := Lib.hid (bt D0.out b); clear b)
    | (go_at_call 35; refine (J1.out _ (HV.out.below D1.out)).mono ?_; rintro e u2 ⟨rfl, b⟩; have D2 := Lib.hid (bt D1.out b); clear b)
    | (go_at_call 36; refine (J2.out _).mono ?_; rintro e u3 ⟨rfl, rfl⟩)
    | (go_at_call 15; (with_reducible refine (J3.out _ (HV.out.below D2.out)).mono ?_); rintro e u4 ⟨rfl, b⟩; have D4 := Lib.hid (bt D2.out b); clear b)
    | (go_at_call 15; (with_reducible refine (J4.out _ (HV.out.below D4.out)).mono ?_); rintro e u5 ⟨rfl, b⟩; have D5 := Lib.hid (bt D4.out b); clear b)
    | (go_at_call 15; (with_reducible refine (J5.out _ (HV.out.below D5.out)).mono ?_); rintro e u6 ⟨rfl, b⟩; have D6 := Lib.hid (bt D5.out b); clear b)
    | (go_at_call 15; (with_reducible refine (J6.out _ (HV.out.below D6.out)).mono ?_); rintro e u7 ⟨rfl, b⟩; have D7 := Lib.hid (bt D6.out b); clear b)
    | (go_at_call 37; refine (J7.out _ (HV.out.below D7.out)).mono ?_; rintro e u8 ⟨rfl, b⟩; have D8 := Lib.hid (bt D7.out b); clear b))
  go_ret
  exact ⟨rfl, D8.out⟩
set_option maxRecDepth 100000 in
set_option maxHeartbeats 6400000 in
theorem near_2_z (sa sd sz sn sden : ByteArray) (g : Int) (w : World) (hv : VarR w) (hf : fitR 400 [sa] = true)
    (hb0 : 0 < sd.size) (hb1 : ((sd[0].toNat : Int) == 45) = false) (hsz : sd = sz) (hne : (sd.toList == []) = false)
    (H0 : ∀ W, VarR W → Calls Tryz.prog 21 #[.string sa, .int .u8 2] W (StE sa 0 W))
    (H1 : ∀ W, VarR W → Calls Tryz.prog 35 #[.func (.func 25) #[] #[], .string sa, .string sa] W (StrR sd W))
    (H2 : ∀ W, Calls Tryz.prog 36 #[.string sa] W (IntR 0 W))
    (H3 : ∀ W, VarR W → Calls Tryz.prog 15 #[.string sz, .string ⟨#[49]⟩] W (CmE (-1) 0 W))
    (H4 : ∀ W, VarR W → Calls Tryz.prog 15 #[.string sz, .string ⟨#[49, 47, 50]⟩] W (CmE (-1) 0 W))
    (H5 : ∀ W, VarR W → Calls Tryz.prog 15 #[.string sd, .string ⟨#[48]⟩] W (CmE 0 0 W))
    (H6 : ∀ W, VarR W → Calls Tryz.prog 15 #[.string sa, .string ⟨#[48]⟩] W (CmE g 0 W))
    (H7 : ∀ W, VarR W → Calls Tryz.prog 37 #[.string sa] W (TwoR sn sden 0 W))
    (hden : (sden.toList == [49]) = true) :
    Calls Tryz.prog 9 #[.string sa, .int .u8 2] w fun e w' => e = .returned (.bool true) ∧ Below w.heap.size w w' := by
  subst hsz
  have HAL := Lib.hid ralive_any
  have HV := Lib.hid hv
  have HF := Lib.hid (rfits_one 400 (by omega) sa true hf)
  have J0 := Lib.hid H0
  have J1 := Lib.hid H1
  have J2 := Lib.hid H2
  have J3 := Lib.hid H3
  have J4 := Lib.hid H4
  have J5 := Lib.hid H5
  have J6 := Lib.hid H6
  have J7 := Lib.hid H7
  clear hf hv H0 H1 H2 H3 H4 H5 H6 H7
  go_enter Tryz.func9, Tryz.ntmps9
  go_wp2_with (first
    | (go_at_call 22; refine (HAL.out _ HV.out).mono ?_; rintro e w0 ⟨rfl, b0⟩; have B0 := Lib.hid b0; clear b0)
    | (go_at_call 34; refine (HF.out _ _).mono ?_; rintro e u0 ⟨rfl, b⟩; have D0 := Lib.hid (bt (bt B0.out ((Below.refl _ w0).alloc (Nat.le_refl _) _)) b); clear b)
    | (go_at_call 21; refine (J0.out _ (HV.out.below D0.out)).mono ?_; rintro e u1 ⟨rfl, b⟩; have D1 := Lib.hid (bt D0.out b); clear b)
    | (go_at_call 35; refine (J1.out _ (HV.out.below D1.out)).mono ?_; rintro e u2 ⟨rfl, b⟩; have D2 := Lib.hid (bt D1.out b); clear b)
    | (go_at_call 36; refine (J2.out _).mono ?_; rintro e u3 ⟨rfl, rfl⟩)
    | (go_at_call 15; (with_reducible refine (J3.out _ (HV.out.below D2.out)).mono ?_); rintro e u4 ⟨rfl, b⟩; have D4 := Lib.hid (bt D2.out b); clear b)
    | (go_at_call 15; (with_reducible refine (J4.out _ (HV.out.below D4.out)).mono ?_); rintro e u5 ⟨rfl, b⟩; have D5 := Lib.hid (bt D4.out b); clear b)
    | (go_at_call 15; (with_reducible refine (J5.out _ (HV.out.below D5.out)).mono ?_); rintro e u6 ⟨rfl, b⟩; have D6 := Lib.hid (bt D5.out b); clear b)
    | (go_at_call 15; (with_reducible refine (J6.out _ (HV.out.below D6.out)).mono ?_); rintro e u7 ⟨rfl, b⟩; have D7 := Lib.hid (bt D6.out b); clear b)
    | (go_at_call 37; refine (J7.out _ (HV.out.below D7.out)).mono ?_; rintro e u8 ⟨rfl, b⟩; have D8 := Lib.hid (bt D7.out b); clear b))
  go_ret
  exact ⟨rfl, D8.out⟩
set_option maxRecDepth 100000 in
set_option maxHeartbeats 6400000 in
theorem near_3_a0 (sa sr sd sz sn sden : ByteArray) (g : Int) (k : Nat) (ch : UInt8) (hk : sr.size = k + 1) (hkb : k ≤ 1000000) (hch : ∀ h : k < sr.size, sr[k] = ch) (hc48 : 48 ≤ ch.toNat) (hc57 : ch.toNat ≤ 57) (w : World) (hv : VarR w) (hf : fitR 400 [sa] = true)
    (hb0 : 0 < sd.size) (hb1 : ((sd[0].toNat : Int) == 45) = true) (hext : sd.extract 1 sd.size = sz) (hne : (sd.toList == []) = false)
    (H0 : ∀ W, VarR W → Calls Tryz.prog 21 #[.string sa, .int .u8 3] W (StE sr 0 W))
    (H1 : ∀ W, VarR W → Calls Tryz.prog 35 #[.func (.func 25) #[] #[], .string sr, .string sa] W (StrR sd W))
    (H2 : ∀ W, Calls Tryz.prog 36 #[.string sr] W (IntR 0 W))
    (H3 : ∀ W, VarR W → Calls Tryz.prog 15 #[.string sz, .string ⟨#[49]⟩] W (CmE (-1) 0 W))
    (H4 : ∀ W, VarR W → Calls Tryz.prog 15 #[.string sz, .string ⟨#[49, 47, 50]⟩] W (CmE (-1) 0 W))
    (H5 : ∀ W, VarR W → Calls Tryz.prog 15 #[.string sd, .string ⟨#[48]⟩] W (CmE (-1) 0 W))
    (H6 : ∀ W, VarR W → Calls Tryz.prog 15 #[.string sa, .string ⟨#[48]⟩] W (CmE g 0 W))
    (H7 : ∀ W, VarR W → Calls Tryz.prog 37 #[.string sa] W (TwoR sn sden 0 W))
    (hden : (sden.toList == [49]) = false) :
    Calls Tryz.prog 9 #[.string sa, .int .u8 3] w fun e w' => e = .returned (.bool true) ∧ Below w.heap.size w w' := by
  have HAL := Lib.hid ralive_any
  have HV := Lib.hid hv
  have HF := Lib.hid (rfits_one 400 (by omega) sa true hf)
  have J0 := Lib.hid H0
  have J1 := Lib.hid H1
  have J2 := Lib.hid H2
  have J3 := Lib.hid H3
  have J4 := Lib.hid H4
  have J5 := Lib.hid H5
  have J6 := Lib.hid H6
  have J7 := Lib.hid H7
  have hsl : 1 ≤ sd.size := hb0
  have hlt : k < sr.size := by omega
  have hcc := hch hlt
  have h1c : (48 : Int) ≤ (ch.toNat : Int) := by omega
  have h2c : (ch.toNat : Int) ≤ 57 := by omega
  have hzc : (sr.size : Int) - 1 = (k : Int) := by omega
  have hnn : (sr.toList == []) = false := by
    rw [Lib.toList_data, beq_eq_false_iff_ne]
    intro e
    have : sr.size = 0 := by rw [Lib.size_eq, e]; rfl
    omega
  clear hch hc48 hc57
  clear hf hv H0 H1 H2 H3 H4 H5 H6 H7
  go_enter Tryz.func9, Tryz.ntmps9
  go_wp2_with (first
    | (go_at_call 22; refine (HAL.out _ HV.out).mono ?_; rintro e w0 ⟨rfl, b0⟩; have B0 := Lib.hid b0; clear b0)
    | (go_at_call 34; refine (HF.out _ _).mono ?_; rintro e u0 ⟨rfl, b⟩; have D0 := Lib.hid (bt (bt B0.out ((Below.refl _ w0).alloc (Nat.le_refl _) _)) b); clear b)
    | (go_at_call 21; refine (J0.out _ (HV.out.below D0.out)).mono ?_; rintro e u1 ⟨rfl, b⟩; have D1 := Lib.hid (bt D0.out b); clear b)
    | (go_at_call 35; refine (J1.out _ (HV.out.below D1.out)).mono ?_; rintro e u2 ⟨rfl, b⟩; have D2 := Lib.hid (bt D1.out b); clear b)
    | (go_at_call 36; refine (J2.out _).mono ?_; rintro e u3 ⟨rfl, rfl⟩)
    | (go_at_call 15; (with_reducible refine (J3.out _ (HV.out.below D2.out)).mono ?_); rintro e u4 ⟨rfl, b⟩; have D4 := Lib.hid (bt D2.out b); clear b)
    | (go_at_call 15; (with_reducible refine (J4.out _ (HV.out.below D4.out)).mono ?_); rintro e u5 ⟨rfl, b⟩; have D5 := Lib.hid (bt D4.out b); clear b)
    | (go_at_call 15; (with_reducible refine (J5.out _ (HV.out.below D5.out)).mono ?_); rintro e u6 ⟨rfl, b⟩; have D6 := Lib.hid (bt D5.out b); clear b)
    | (go_at_call 15; (with_reducible refine (J6.out _ (HV.out.below D6.out)).mono ?_); rintro e u7 ⟨rfl, b⟩; have D7 := Lib.hid (bt D6.out b); clear b)
    | (go_at_call 37; refine (J7.out _ (HV.out.below D7.out)).mono ?_; rintro e u8 ⟨rfl, b⟩; have D8 := Lib.hid (bt D7.out b); clear b))
  go_ret
  exact ⟨rfl, D8.out⟩
set_option maxRecDepth 100000 in
set_option maxHeartbeats 6400000 in
theorem near_3_b0 (sa sr sd sz sn sden : ByteArray) (g : Int) (k : Nat) (ch : UInt8) (hk : sr.size = k + 1) (hkb : k ≤ 1000000) (hch : ∀ h : k < sr.size, sr[k] = ch) (hc48 : 48 ≤ ch.toNat) (hc57 : ch.toNat ≤ 57) (hev : (((ch.toNat : Int) - 48) % 2 == 0) = true) (w : World) (hv : VarR w) (hf : fitR 400 [sa] = true)
    (hb0 : 0 < sd.size) (hb1 : ((sd[0].toNat : Int) == 45) = true) (hext : sd.extract 1 sd.size = sz) (hne : (sd.toList == []) = false)
    (H0 : ∀ W, VarR W → Calls Tryz.prog 21 #[.string sa, .int .u8 3] W (StE sr 0 W))
    (H1 : ∀ W, VarR W → Calls Tryz.prog 35 #[.func (.func 25) #[] #[], .string sr, .string sa] W (StrR sd W))
    (H2 : ∀ W, Calls Tryz.prog 36 #[.string sr] W (IntR 0 W))
    (H3 : ∀ W, VarR W → Calls Tryz.prog 15 #[.string sz, .string ⟨#[49]⟩] W (CmE (-1) 0 W))
    (H4 : ∀ W, VarR W → Calls Tryz.prog 15 #[.string sz, .string ⟨#[49, 47, 50]⟩] W (CmE 0 0 W))
    (H5 : ∀ W, VarR W → Calls Tryz.prog 15 #[.string sd, .string ⟨#[48]⟩] W (CmE (-1) 0 W))
    (H6 : ∀ W, VarR W → Calls Tryz.prog 15 #[.string sa, .string ⟨#[48]⟩] W (CmE g 0 W))
    (H7 : ∀ W, VarR W → Calls Tryz.prog 37 #[.string sa] W (TwoR sn sden 0 W))
    (hden : (sden.toList == [49]) = false) :
    Calls Tryz.prog 9 #[.string sa, .int .u8 3] w fun e w' => e = .returned (.bool true) ∧ Below w.heap.size w w' := by
  have HAL := Lib.hid ralive_any
  have HV := Lib.hid hv
  have HF := Lib.hid (rfits_one 400 (by omega) sa true hf)
  have J0 := Lib.hid H0
  have J1 := Lib.hid H1
  have J2 := Lib.hid H2
  have J3 := Lib.hid H3
  have J4 := Lib.hid H4
  have J5 := Lib.hid H5
  have J6 := Lib.hid H6
  have J7 := Lib.hid H7
  have hsl : 1 ≤ sd.size := hb0
  have hlt : k < sr.size := by omega
  have hcc := hch hlt
  have h1c : (48 : Int) ≤ (ch.toNat : Int) := by omega
  have h2c : (ch.toNat : Int) ≤ 57 := by omega
  have hzc : (sr.size : Int) - 1 = (k : Int) := by omega
  have hnn : (sr.toList == []) = false := by
    rw [Lib.toList_data, beq_eq_false_iff_ne]
    intro e
    have : sr.size = 0 := by rw [Lib.size_eq, e]; rfl
    omega
  clear hch hc48 hc57
  clear hf hv H0 H1 H2 H3 H4 H5 H6 H7
  go_enter Tryz.func9, Tryz.ntmps9
  go_wp2_with (first
    | (go_at_call 22; refine (HAL.out _ HV.out).mono ?_; rintro e w0 ⟨rfl, b0⟩; have B0 := Lib.hid b0; clear b0)
    | (go_at_call 34; refine (HF.out _ _).mono ?_; rintro e u0 ⟨rfl, b⟩; have D0 := Lib.hid (bt (bt B0.out ((Below.refl _ w0).alloc (Nat.le_refl _) _)) b); clear b)
    | (go_at_call 21; refine (J0.out _ (HV.out.below D0.out)).mono ?_; rintro e u1 ⟨rfl, b⟩; have D1 := Lib.hid (bt D0.out b); clear b)
    | (go_at_call 35; refine (J1.out _ (HV.out.below D1.out)).mono ?_; rintro e u2 ⟨rfl, b⟩; have D2 := Lib.hid (bt D1.out b); clear b)
    | (go_at_call 36; refine (J2.out _).mono ?_; rintro e u3 ⟨rfl, rfl⟩)
    | (go_at_call 15; (with_reducible refine (J3.out _ (HV.out.below D2.out)).mono ?_); rintro e u4 ⟨rfl, b⟩; have D4 := Lib.hid (bt D2.out b); clear b)
    | (go_at_call 15; (with_reducible refine (J4.out _ (HV.out.below D4.out)).mono ?_); rintro e u5 ⟨rfl, b⟩; have D5 := Lib.hid (bt D4.out b); clear b)
    | (go_at_call 15; (with_reducible refine (J5.out _ (HV.out.below D5.out)).mono ?_); rintro e u6 ⟨rfl, b⟩; have D6 := Lib.hid (bt D5.out b); clear b)
    | (go_at_call 15; (with_reducible refine (J6.out _ (HV.out.below D6.out)).mono ?_); rintro e u7 ⟨rfl, b⟩; have D7 := Lib.hid (bt D6.out b); clear b)
    | (go_at_call 37; refine (J7.out _ (HV.out.below D7.out)).mono ?_; rintro e u8 ⟨rfl, b⟩; have D8 := Lib.hid (bt D7.out b); clear b))
  go_ret
  exact ⟨rfl, D8.out⟩
set_option maxRecDepth 100000 in
set_option maxHeartbeats 6400000 in
theorem near_3_a2 (sa sr sd sz sn sden : ByteArray) (g : Int) (k : Nat) (ch : UInt8) (hk : sr.size = k + 1) (hkb : k ≤ 1000000) (hch : ∀ h : k < sr.size, sr[k] = ch) (hc48 : 48 ≤ ch.toNat) (hc57 : ch.toNat ≤ 57) (w : World) (hv : VarR w) (hf : fitR 400 [sa] = true)
    (hb0 : 0 < sd.size) (hb1 : ((sd[0].toNat : Int) == 45) = false) (hsz : sd = sz) (hne : (sd.toList == []) = false)
    (H0 : ∀ W, VarR W → Calls Tryz.prog 21 #[.string sa, .int .u8 3] W (StE sr 0 W))
    (H1 : ∀ W, VarR W → Calls Tryz.prog 35 #[.func (.func 25) #[] #[], .string sr, .string sa] W (StrR sd W))
    (H2 : ∀ W, Calls Tryz.prog 36 #[.string sr] W (IntR 0 W))
    (H3 : ∀ W, VarR W → Calls Tryz.prog 15 #[.string sz, .string ⟨#[49]⟩] W (CmE (-1) 0 W))
    (H4 : ∀ W, VarR W → Calls Tryz.prog 15 #[.string sz, .string ⟨#[49, 47, 50]⟩] W (CmE (-1) 0 W))
    (H5 : ∀ W, VarR W → Calls Tryz.prog 15 #[.string sd, .string ⟨#[48]⟩] W (CmE 1 0 W))
    (H6 : ∀ W, VarR W → Calls Tryz.prog 15 #[.string sa, .string ⟨#[48]⟩] W (CmE g 0 W))
    (H7 : ∀ W, VarR W → Calls Tryz.prog 37 #[.string sa] W (TwoR sn sden 0 W))
    (hden : (sden.toList == [49]) = false) :
    Calls Tryz.prog 9 #[.string sa, .int .u8 3] w fun e w' => e = .returned (.bool true) ∧ Below w.heap.size w w' := by
  subst hsz
  have HAL := Lib.hid ralive_any
  have HV := Lib.hid hv
  have HF := Lib.hid (rfits_one 400 (by omega) sa true hf)
  have J0 := Lib.hid H0
  have J1 := Lib.hid H1
  have J2 := Lib.hid H2
  have J3 := Lib.hid H3
  have J4 := Lib.hid H4
  have J5 := Lib.hid H5
  have J6 := Lib.hid H6
  have J7 := Lib.hid H7
  have hlt : k < sr.size := by omega
  have hcc := hch hlt
  have h1c : (48 : Int) ≤ (ch.toNat : Int) := by omega
  have h2c : (ch.toNat : Int) ≤ 57 := by omega
  have hzc : (sr.size : Int) - 1 = (k : Int) := by omega
  have hnn : (sr.toList == []) = false := by
    rw [Lib.toList_data, beq_eq_false_iff_ne]
    intro e
    have : sr.size = 0 := by rw [Lib.size_eq, e]; rfl
    omega
  clear hch hc48 hc57
  clear hf hv H0 H1 H2 H3 H4 H5 H6 H7
  go_enter Tryz.func9, Tryz.ntmps9
  go_wp2_with (first
    | (go_at_call 22; refine (HAL.out _ HV.out).mono ?_; rintro e w0 ⟨rfl, b0⟩; have B0 := Lib.hid b0; clear b0)
    | (go_at_call 34; refine (HF.out _ _).mono ?_; rintro e u0 ⟨rfl, b⟩; have D0 := Lib.hid (bt (bt B0.out ((Below.refl _ w0).alloc (Nat.le_refl _) _)) b); clear b)
    | (go_at_call 21; refine (J0.out _ (HV.out.below D0.out)).mono ?_; rintro e u1 ⟨rfl, b⟩; have D1 := Lib.hid (bt D0.out b); clear b)
    | (go_at_call 35; refine (J1.out _ (HV.out.below D1.out)).mono ?_; rintro e u2 ⟨rfl, b⟩; have D2 := Lib.hid (bt D1.out b); clear b)
    | (go_at_call 36; refine (J2.out _).mono ?_; rintro e u3 ⟨rfl, rfl⟩)
    | (go_at_call 15; (with_reducible refine (J3.out _ (HV.out.below D2.out)).mono ?_); rintro e u4 ⟨rfl, b⟩; have D4 := Lib.hid (bt D2.out b); clear b)
    | (go_at_call 15; (with_reducible refine (J4.out _ (HV.out.below D4.out)).mono ?_); rintro e u5 ⟨rfl, b⟩; have D5 := Lib.hid (bt D4.out b); clear b)
    | (go_at_call 15; (with_reducible refine (J5.out _ (HV.out.below D5.out)).mono ?_); rintro e u6 ⟨rfl, b⟩; have D6 := Lib.hid (bt D5.out b); clear b)
    | (go_at_call 15; (with_reducible refine (J6.out _ (HV.out.below D6.out)).mono ?_); rintro e u7 ⟨rfl, b⟩; have D7 := Lib.hid (bt D6.out b); clear b)
    | (go_at_call 37; refine (J7.out _ (HV.out.below D7.out)).mono ?_; rintro e u8 ⟨rfl, b⟩; have D8 := Lib.hid (bt D7.out b); clear b))
  go_ret
  exact ⟨rfl, D8.out⟩
set_option maxRecDepth 100000 in
set_option maxHeartbeats 6400000 in
theorem near_3_b2 (sa sr sd sz sn sden : ByteArray) (g : Int) (k : Nat) (ch : UInt8) (hk : sr.size = k + 1) (hkb : k ≤ 1000000) (hch : ∀ h : k < sr.size, sr[k] = ch) (hc48 : 48 ≤ ch.toNat) (hc57 : ch.toNat ≤ 57) (hev : (((ch.toNat : Int) - 48) % 2 == 0) = true) (w : World) (hv : VarR w) (hf : fitR 400 [sa] = true)
    (hb0 : 0 < sd.size) (hb1 : ((sd[0].toNat : Int) == 45) = false) (hsz : sd = sz) (hne : (sd.toList == []) = false)
    (H0 : ∀ W, VarR W → Calls Tryz.prog 21 #[.string sa, .int .u8 3] W (StE sr 0 W))
    (H1 : ∀ W, VarR W → Calls Tryz.prog 35 #[.func (.func 25) #[] #[], .string sr, .string sa] W (StrR sd W))
    (H2 : ∀ W, Calls Tryz.prog 36 #[.string sr] W (IntR 0 W))
    (H3 : ∀ W, VarR W → Calls Tryz.prog 15 #[.string sz, .string ⟨#[49]⟩] W (CmE (-1) 0 W))
    (H4 : ∀ W, VarR W → Calls Tryz.prog 15 #[.string sz, .string ⟨#[49, 47, 50]⟩] W (CmE 0 0 W))
    (H5 : ∀ W, VarR W → Calls Tryz.prog 15 #[.string sd, .string ⟨#[48]⟩] W (CmE 1 0 W))
    (H6 : ∀ W, VarR W → Calls Tryz.prog 15 #[.string sa, .string ⟨#[48]⟩] W (CmE g 0 W))
    (H7 : ∀ W, VarR W → Calls Tryz.prog 37 #[.string sa] W (TwoR sn sden 0 W))
    (hden : (sden.toList == [49]) = false) :
    Calls Tryz.prog 9 #[.string sa, .int .u8 3] w fun e w' => e = .returned (.bool true) ∧ Below w.heap.size w w' := by
  subst hsz
  have HAL := Lib.hid ralive_any
  have HV := Lib.hid hv
  have HF := Lib.hid (rfits_one 400 (by omega) sa true hf)
  have J0 := Lib.hid H0
  have J1 := Lib.hid H1
  have J2 := Lib.hid H2
  have J3 := Lib.hid H3
  have J4 := Lib.hid H4
  have J5 := Lib.hid H5
  have J6 := Lib.hid H6
  have J7 := Lib.hid H7
  have hlt : k < sr.size := by omega
  have hcc := hch hlt
  have h1c : (48 : Int) ≤ (ch.toNat : Int) := by omega
  have h2c : (ch.toNat : Int) ≤ 57 := by omega
  have hzc : (sr.size : Int) - 1 = (k : Int) := by omega
  have hnn : (sr.toList == []) = false := by
    rw [Lib.toList_data, beq_eq_false_iff_ne]
    intro e
    have : sr.size = 0 := by rw [Lib.size_eq, e]; rfl
    omega
  clear hch hc48 hc57
  clear hf hv H0 H1 H2 H3 H4 H5 H6 H7
  go_enter Tryz.func9, Tryz.ntmps9
  go_wp2_with (first
    | (go_at_call 22; refine (HAL.out _ HV.out).mono ?_; rintro e w0 ⟨rfl, b0⟩; have B0 := Lib.hid b0; clear b0)
    | (go_at_call 34; refine (HF.out _ _).mono ?_; rintro e u0 ⟨rfl, b⟩; have D0 := Lib.hid (bt (bt B0.out ((Below.refl _ w0).alloc (Nat.le_refl _) _)) b); clear b)
    | (go_at_call 21; refine (J0.out _ (HV.out.below D0.out)).mono ?_; rintro e u1 ⟨rfl, b⟩; have D1 := Lib.hid (bt D0.out b); clear b)
    | (go_at_call 35; refine (J1.out _ (HV.out.below D1.out)).mono ?_; rintro e u2 ⟨rfl, b⟩; have D2 := Lib.hid (bt D1.out b); clear b)
    | (go_at_call 36; refine (J2.out _).mono ?_; rintro e u3 ⟨rfl, rfl⟩)
    | (go_at_call 15; (with_reducible refine (J3.out _ (HV.out.below D2.out)).mono ?_); rintro e u4 ⟨rfl, b⟩; have D4 := Lib.hid (bt D2.out b); clear b)
    | (go_at_call 15; (with_reducible refine (J4.out _ (HV.out.below D4.out)).mono ?_); rintro e u5 ⟨rfl, b⟩; have D5 := Lib.hid (bt D4.out b); clear b)
    | (go_at_call 15; (with_reducible refine (J5.out _ (HV.out.below D5.out)).mono ?_); rintro e u6 ⟨rfl, b⟩; have D6 := Lib.hid (bt D5.out b); clear b)
    | (go_at_call 15; (with_reducible refine (J6.out _ (HV.out.below D6.out)).mono ?_); rintro e u7 ⟨rfl, b⟩; have D7 := Lib.hid (bt D6.out b); clear b)
    | (go_at_call 37; refine (J7.out _ (HV.out.below D7.out)).mono ?_; rintro e u8 ⟨rfl, b⟩; have D8 := Lib.hid (bt D7.out b); clear b))
  go_ret
  exact ⟨rfl, D8.out⟩
set_option maxRecDepth 100000 in
set_option maxHeartbeats 6400000 in
theorem near_3_z (sa sd sz sn sden : ByteArray) (g : Int) (k : Nat) (ch : UInt8) (hk : sa.size = k + 1) (hkb : k ≤ 1000000) (hch : ∀ h : k < sa.size, sa[k] = ch) (hc48 : 48 ≤ ch.toNat) (hc57 : ch.toNat ≤ 57) (w : World) (hv : VarR w) (hf : fitR 400 [sa] = true)
    (hb0 : 0 < sd.size) (hb1 : ((sd[0].toNat : Int) == 45) = false) (hsz : sd = sz) (hne : (sd.toList == []) = false)
    (H0 : ∀ W, VarR W → Calls Tryz.prog 21 #[.string sa, .int .u8 3] W (StE sa 0 W))
    (H1 : ∀ W, VarR W → Calls Tryz.prog 35 #[.func (.func 25) #[] #[], .string sa, .string sa] W (StrR sd W))
    (H2 : ∀ W, Calls Tryz.prog 36 #[.string sa] W (IntR 0 W))
    (H3 : ∀ W, VarR W → Calls Tryz.prog 15 #[.string sz, .string ⟨#[49]⟩] W (CmE (-1) 0 W))
    (H4 : ∀ W, VarR W → Calls Tryz.prog 15 #[.string sz, .string ⟨#[49, 47, 50]⟩] W (CmE (-1) 0 W))
    (H5 : ∀ W, VarR W → Calls Tryz.prog 15 #[.string sd, .string ⟨#[48]⟩] W (CmE 0 0 W))
    (H6 : ∀ W, VarR W → Calls Tryz.prog 15 #[.string sa, .string ⟨#[48]⟩] W (CmE g 0 W))
    (H7 : ∀ W, VarR W → Calls Tryz.prog 37 #[.string sa] W (TwoR sn sden 0 W))
    (hden : (sden.toList == [49]) = true) :
    Calls Tryz.prog 9 #[.string sa, .int .u8 3] w fun e w' => e = .returned (.bool true) ∧ Below w.heap.size w w' := by
  subst hsz
  have HAL := Lib.hid ralive_any
  have HV := Lib.hid hv
  have HF := Lib.hid (rfits_one 400 (by omega) sa true hf)
  have J0 := Lib.hid H0
  have J1 := Lib.hid H1
  have J2 := Lib.hid H2
  have J3 := Lib.hid H3
  have J4 := Lib.hid H4
  have J5 := Lib.hid H5
  have J6 := Lib.hid H6
  have J7 := Lib.hid H7
  have hlt : k < sa.size := by omega
  have hcc := hch hlt
  have h1c : (48 : Int) ≤ (ch.toNat : Int) := by omega
  have h2c : (ch.toNat : Int) ≤ 57 := by omega
  have hzc : (sa.size : Int) - 1 = (k : Int) := by omega
  have hnn : (sa.toList == []) = false := by
    rw [Lib.toList_data, beq_eq_false_iff_ne]
    intro e
    have : sa.size = 0 := by rw [Lib.size_eq, e]; rfl
    omega
  clear hch hc48 hc57
  clear hf hv H0 H1 H2 H3 H4 H5 H6 H7
  go_enter Tryz.func9, Tryz.ntmps9
  go_wp2_with (first
    | (go_at_call 22; refine (HAL.out _ HV.out).mono ?_; rintro e w0 ⟨rfl, b0⟩; have B0 := Lib.hid b0; clear b0)
    | (go_at_call 34; refine (HF.out _ _).mono ?_; rintro e u0 ⟨rfl, b⟩; have D0 := Lib.hid (bt (bt B0.out ((Below.refl _ w0).alloc (Nat.le_refl _) _)) b); clear b)
    | (go_at_call 21; refine (J0.out _ (HV.out.below D0.out)).mono ?_; rintro e u1 ⟨rfl, b⟩; have D1 := Lib.hid (bt D0.out b); clear b)
    | (go_at_call 35; refine (J1.out _ (HV.out.below D1.out)).mono ?_; rintro e u2 ⟨rfl, b⟩; have D2 := Lib.hid (bt D1.out b); clear b)
    | (go_at_call 36; refine (J2.out _).mono ?_; rintro e u3 ⟨rfl, rfl⟩)
    | (go_at_call 15; (with_reducible refine (J3.out _ (HV.out.below D2.out)).mono ?_); rintro e u4 ⟨rfl, b⟩; have D4 := Lib.hid (bt D2.out b); clear b)
    | (go_at_call 15; (with_reducible refine (J4.out _ (HV.out.below D4.out)).mono ?_); rintro e u5 ⟨rfl, b⟩; have D5 := Lib.hid (bt D4.out b); clear b)
    | (go_at_call 15; (with_reducible refine (J5.out _ (HV.out.below D5.out)).mono ?_); rintro e u6 ⟨rfl, b⟩; have D6 := Lib.hid (bt D5.out b); clear b)
    | (go_at_call 15; (with_reducible refine (J6.out _ (HV.out.below D6.out)).mono ?_); rintro e u7 ⟨rfl, b⟩; have D7 := Lib.hid (bt D6.out b); clear b)
    | (go_at_call 37; refine (J7.out _ (HV.out.below D7.out)).mono ?_; rintro e u8 ⟨rfl, b⟩; have D8 := Lib.hid (bt D7.out b); clear b))
  go_ret
  exact ⟨rfl, D8.out⟩
theorem rndQ_le (m : Nat) (q : Rat) : (rndQ m q).natAbs ≤ q.num.natAbs := by
  have hd := q.den_pos
  unfold rndQ
  split
  · exact Int.natAbs_ediv_le_natAbs _ _
  · next hr =>
    split
    · exact floor_up (by omega) hr
    · exact Int.natAbs_ediv_le_natAbs _ _
theorem qd_abs {k : Nat} {q : Rat} (h : QD k q) : QD k (absQ q) := by
  obtain ⟨a1, a2⟩ := absQ_parts q
  unfold QD
  rw [a1, a2]
  exact ⟨h.1.abs, h.2⟩
theorem rep_is_one (y : Int) : ((rep y).toList == [49]) = decide (y = 1) := by
  rw [Lib.toList_data, rep_data, Bool.eq_iff_iff, beq_iff_eq, decide_eq_true_iff, ← itoa_one]
  exact ⟨fun h => itoa_inj h, fun h => by rw [h]⟩
theorem near_pack (m : Nat) (q : Rat) (hq : QD 400 q) (s g h : Int) (es : cmpZ (nrP m q) 0 = s) (eg : cmpZ q.num 0 = g) (eh : cmpZ (2 * ((nrP m q).natAbs : Int)) q.den = h) (eo : cmpZ ((nrP m q).natAbs : Int) q.den = -1) :
    ∃ sd sz sn sden : ByteArray,
      (∀ W, VarR W → Calls Tryz.prog 35 #[.func (.func 25) #[] #[], .string (rep (rndQ m q)), .string (rq q)] W (StrR sd W)) ∧
      (∀ W, Calls Tryz.prog 36 #[.string (rep (rndQ m q))] W (IntR 0 W)) ∧
      (∀ W, VarR W → Calls Tryz.prog 15 #[.string sz, .string ⟨#[49]⟩] W (CmE (-1) 0 W)) ∧
      (∀ W, VarR W → Calls Tryz.prog 15 #[.string sz, .string ⟨#[49, 47, 50]⟩] W (CmE h 0 W)) ∧
      (∀ W, VarR W → Calls Tryz.prog 15 #[.string sd, .string ⟨#[48]⟩] W (CmE s 0 W)) ∧
      (∀ W, VarR W → Calls Tryz.prog 15 #[.string (rq q), .string ⟨#[48]⟩] W (CmE g 0 W)) ∧
      (∀ W, VarR W → Calls Tryz.prog 37 #[.string (rq q)] W (TwoR sn sden 0 W)) ∧
      (sden.toList == [49]) = decide (q.den = 1) ∧ (sd.toList == []) = false ∧
      (s = -1 → (∃ hb0 : 0 < sd.size, ((sd[0].toNat : Int) == 45) = true) ∧ sd.extract 1 sd.size = sz) ∧
      (s ≠ -1 → (∃ hb0 : 0 < sd.size, ((sd[0].toNat : Int) == 45) = false) ∧ sd = sz) := by
  have hN : QD 400 ((rndQ m q : Int) : Rat) := by
    refine ⟨?_, ?_⟩
    · rw [Rat.num_intCast]; exact hq.1.of_le (rndQ_le m q)
    · rw [Rat.den_intCast]; exact dg_one.mono (by omega)
  obtain ⟨p1, p2⟩ := near_parts m q
  have hD := hN.sub hq
  obtain ⟨a1, a2⟩ := absQ_parts (((rndQ m q : Int) : Rat) - q)
  have hcs : s = -1 ↔ nrP m q < 0 := by rcases cmpZ_tri (nrP m q) 0 with ⟨x, e⟩ | ⟨x, e⟩ | ⟨x, e⟩ <;> omega
  refine ⟨rq (((rndQ m q : Int) : Rat) - q), rq (absQ (((rndQ m q : Int) : Rat) - q)), rep q.num, rep (q.den : Int), ?_, ?_, ?_, ?_, ?_, ?_, ?_, ?_, ?_, ?_, ?_⟩
  · intro W hW
    exact o_rsub hN hq (by omega) rfl _ _ _ (rq_int _) rfl rfl W hW
  · intro W
    have hc := check_any (rep (rndQ m q)) W (rep_size (rndQ_abs m (hq.sml (by omega))))
    rw [rep_data, chk_of_abs (rndQ_abs m (hq.sml (by omega)))] at hc
    exact hc
  · intro W hW
    refine c_rat (qd_abs hD) qd_one (by omega) ?_ _ _ rfl rq_one W hW
    rw [cmpQ_one, a1, a2, p1]
    rw [p2]; exact eo
  · intro W hW
    refine c_rat (qd_abs hD) qd_hlf (by omega) ?_ _ _ rfl hlf_text W hW
    rw [cmpQ_half, a1, a2, p1, p2]; exact eh
  · intro W hW
    refine c_rat hD qd_zero (by omega) ?_ _ _ rfl rq_zero W hW
    rw [cmpQ_zero, p1]; exact es
  · intro W hW
    refine c_rat hq qd_zero (by omega) ?_ _ _ rfl rq_zero W hW
    rw [cmpQ_zero]; exact eg
  · intro W hW
    have hs := hq.sml (by omega)
    have h7 := parts_any (rq q) (by have := rq_size hs; omega) W hW
    obtain ⟨x1, x2⟩ := parS_ok (rq_chk hs)
    rw [x1, x2, rq_chk hs, rq_nB, rq_dB] at h7
    exact h7
  · rw [rep_is_one, Bool.eq_iff_iff, decide_eq_true_iff, decide_eq_true_iff]; omega
  · exact rq_ne _ _ rfl
  · intro h0
    obtain ⟨y1, y2⟩ := rq_neg_text (((rndQ m q : Int) : Rat) - q) (by rw [p1]; exact hcs.1 h0) _ rfl
    exact ⟨y1, y2⟩
  · intro h0
    have hp : ¬ nrP m q < 0 := fun x => h0 (hcs.2 x)
    refine ⟨rq_pos_text _ (by rw [p1]; omega) _ rfl, ?_⟩
    unfold absQ
    rw [if_neg (by rw [p1]; exact hp)]
theorem near_whole (m : Nat) (q : Rat) (h1 : q.den = 1) : rndQ m q = q.num ∧ nrP m q = 0 ∧ rep (rndQ m q) = rq q := by
  have e : rndQ m q = q.num := by unfold rndQ; rw [h1]; rw [if_pos (by simp)]; simp
  refine ⟨e, by unfold nrP; rw [e, h1]; simp, ?_⟩
  rw [e, ← rq_int]
  congr 1
  exact Rat.ext (Rat.num_intCast _) (by rw [Rat.den_intCast, h1])
theorem even_byte (z : Int) (h : z.natAbs < lim) : ∃ (k : Nat) (ch : UInt8), (rep z).size = k + 1 ∧ k ≤ 1000000 ∧ (∀ h : k < (rep z).size, (rep z)[k] = ch) ∧ 48 ≤ ch.toNat ∧ ch.toNat ≤ 57 ∧ (z % 2 = 0 → (((ch.toNat : Int) - 48) % 2 == 0) = true) := by
  obtain ⟨p, c, e, h1, h2, h3⟩ := last_list z
  have hs : (rep z).size = p.length + 1 := by rw [Lib.size_eq, rep_data, e]; simp
  have hl := rep_short h
  refine ⟨p.length, c, hs, by omega, fun hlt => ?_, h1, h2, fun hz => ?_⟩
  · have hg := getElem_toList (rep z) p.length hlt
    rw [rep_data, e] at hg
    simpa using hg.symm
  · rw [decide_eq_false (by omega)] at h3
    rw [beq_eq_false_iff_ne] at h3
    rw [beq_iff_eq]; omega
theorem near_law0 (q : Rat) (hq : QD 400 q) (hf : fitR 400 [rq q] = true) (w : World) (hv : VarR w) :
    Calls Tryz.prog 9 #[.string (rq q), .int .u8 0] w fun e w' => e = .returned (.bool true) ∧ Below w.heap.size w w' := by
  have H0 := fun W hW => Round_q0 q (hq.sml (by omega)) W hW
  by_cases h1 : q.den = 1
  · obtain ⟨e1, e2, e3⟩ := near_whole 0 q h1
    obtain ⟨g, eg⟩ : ∃ g, cmpZ q.num 0 = g := ⟨_, rfl⟩
    obtain ⟨sd, sz, sn, sden, K1, K2, K3, K4, K5, K6, K7, K8, K9, _, KB⟩ := near_pack 0 q hq 0 g (-1) (by rw [e2]; rfl) eg (by rw [e2, h1]; rfl) (by rw [e2, h1]; rfl)
    obtain ⟨⟨c1, c2⟩, c3⟩ := KB (by decide)
    rw [e3] at H0 K1 K2
    rw [decide_eq_true h1] at K8
    have hg := cmp_three q.num 0
    rw [eg] at hg
    rcases hg with rfl | rfl | rfl
    · exact near_0_z0 (rq q) sd sz sn sden w hv hf c1 c2 c3 K9 H0 K1 K2 K3 K4 K5 K6 K7 K8
    · exact near_0_z1 (rq q) sd sz sn sden w hv hf c1 c2 c3 K9 H0 K1 K2 K3 K4 K5 K6 K7 K8
    · exact near_0_z2 (rq q) sd sz sn sden w hv hf c1 c2 c3 K9 H0 K1 K2 K3 K4 K5 K6 K7 K8
  · obtain ⟨eo, s, g, h, es, eg, eh, f0, f1, f4, f2, f3, fs⟩ := near_facts 0 q (by decide) h1
    obtain ⟨sd, sz, sn, sden, K1, K2, K3, K4, K5, K6, K7, K8, K9, KA, KB⟩ := near_pack 0 q hq s g h es eg eh eo
    rw [decide_eq_false h1] at K8
    clear es eg eh eo
    rcases f0 rfl with ⟨rfl, rfl⟩ | ⟨rfl, rfl⟩
    · obtain ⟨⟨c1, c2⟩, c3⟩ := KA rfl; exact near_0_0 (rq q) _ sd sz sn sden h w hv hf c1 c2 c3 K9 H0 K1 K2 K3 K4 K5 K6 K7 K8
    · obtain ⟨⟨c1, c2⟩, c3⟩ := KB (by decide); exact near_0_1 (rq q) _ sd sz sn sden h w hv hf c1 c2 c3 K9 H0 K1 K2 K3 K4 K5 K6 K7 K8
theorem near_law1 (q : Rat) (hq : QD 400 q) (hf : fitR 400 [rq q] = true) (w : World) (hv : VarR w) :
    Calls Tryz.prog 9 #[.string (rq q), .int .u8 1] w fun e w' => e = .returned (.bool true) ∧ Below w.heap.size w w' := by
  have H0 := fun W hW => Round_q1 q (hq.sml (by omega)) W hW
  by_cases h1 : q.den = 1
  · obtain ⟨e1, e2, e3⟩ := near_whole 1 q h1
    obtain ⟨g, eg⟩ : ∃ g, cmpZ q.num 0 = g := ⟨_, rfl⟩
    obtain ⟨sd, sz, sn, sden, K1, K2, K3, K4, K5, K6, K7, K8, K9, _, KB⟩ := near_pack 1 q hq 0 g (-1) (by rw [e2]; rfl) eg (by rw [e2, h1]; rfl) (by rw [e2, h1]; rfl)
    obtain ⟨⟨c1, c2⟩, c3⟩ := KB (by decide)
    rw [e3] at H0 K1 K2
    rw [decide_eq_true h1] at K8
    have hg := cmp_three q.num 0
    rw [eg] at hg
    rcases hg with rfl | rfl | rfl
    · exact near_1_z0 (rq q) sd sz sn sden w hv hf c1 c2 c3 K9 H0 K1 K2 K3 K4 K5 K6 K7 K8
    · exact near_1_z1 (rq q) sd sz sn sden w hv hf c1 c2 c3 K9 H0 K1 K2 K3 K4 K5 K6 K7 K8
    · exact near_1_z2 (rq q) sd sz sn sden w hv hf c1 c2 c3 K9 H0 K1 K2 K3 K4 K5 K6 K7 K8
  · obtain ⟨eo, s, g, h, es, eg, eh, f0, f1, f4, f2, f3, fs⟩ := near_facts 1 q (by decide) h1
    obtain ⟨sd, sz, sn, sden, K1, K2, K3, K4, K5, K6, K7, K8, K9, KA, KB⟩ := near_pack 1 q hq s g h es eg eh eo
    rw [decide_eq_false h1] at K8
    clear es eg eh eo
    rcases f1 rfl with ⟨rfl, rfl⟩ | ⟨rfl, rfl⟩
    · obtain ⟨⟨c1, c2⟩, c3⟩ := KB (by decide); exact near_1_0 (rq q) _ sd sz sn sden h w hv hf c1 c2 c3 K9 H0 K1 K2 K3 K4 K5 K6 K7 K8
    · obtain ⟨⟨c1, c2⟩, c3⟩ := KA rfl; exact near_1_1 (rq q) _ sd sz sn sden h w hv hf c1 c2 c3 K9 H0 K1 K2 K3 K4 K5 K6 K7 K8
theorem near_law2 (q : Rat) (hq : QD 400 q) (hf : fitR 400 [rq q] = true) (w : World) (hv : VarR w) :
    Calls Tryz.prog 9 #[.string (rq q), .int .u8 2] w fun e w' => e = .returned (.bool true) ∧ Below w.heap.size w w' := by
  have H0 := fun W hW => Round_q2 q (hq.sml (by omega)) W hW
  by_cases h1 : q.den = 1
  · obtain ⟨e1, e2, e3⟩ := near_whole 2 q h1
    obtain ⟨g, eg⟩ : ∃ g, cmpZ q.num 0 = g := ⟨_, rfl⟩
    obtain ⟨sd, sz, sn, sden, K1, K2, K3, K4, K5, K6, K7, K8, K9, _, KB⟩ := near_pack 2 q hq 0 g (-1) (by rw [e2]; rfl) eg (by rw [e2, h1]; rfl) (by rw [e2, h1]; rfl)
    obtain ⟨⟨c1, c2⟩, c3⟩ := KB (by decide)
    rw [e3] at H0 K1 K2
    rw [decide_eq_true h1] at K8
    exact near_2_z (rq q) sd sz sn sden g w hv hf c1 c2 c3 K9 H0 K1 K2 K3 K4 K5 K6 K7 K8
  · obtain ⟨eo, s, g, h, es, eg, eh, f0, f1, f4, f2, f3, fs⟩ := near_facts 2 q (by decide) h1
    obtain ⟨sd, sz, sn, sden, K1, K2, K3, K4, K5, K6, K7, K8, K9, KA, KB⟩ := near_pack 2 q hq s g h es eg eh eo
    rw [decide_eq_false h1] at K8
    clear es eg eh eo
    rcases f2 rfl with rfl | ⟨rfl, ⟨rfl, rfl⟩ | ⟨rfl, rfl⟩⟩
    · rcases fs with rfl | rfl
      · obtain ⟨⟨c1, c2⟩, c3⟩ := KA rfl; exact near_2_a0 (rq q) _ sd sz sn sden g w hv hf c1 c2 c3 K9 H0 K1 K2 K3 K4 K5 K6 K7 K8
      · obtain ⟨⟨c1, c2⟩, c3⟩ := KB (by decide); exact near_2_a2 (rq q) _ sd sz sn sden g w hv hf c1 c2 c3 K9 H0 K1 K2 K3 K4 K5 K6 K7 K8
    · obtain ⟨⟨c1, c2⟩, c3⟩ := KB (by decide); exact near_2_b0 (rq q) _ sd sz sn sden w hv hf c1 c2 c3 K9 H0 K1 K2 K3 K4 K5 K6 K7 K8
    · obtain ⟨⟨c1, c2⟩, c3⟩ := KA rfl; exact near_2_b1 (rq q) _ sd sz sn sden w hv hf c1 c2 c3 K9 H0 K1 K2 K3 K4 K5 K6 K7 K8
theorem near_law3 (q : Rat) (hq : QD 400 q) (hf : fitR 400 [rq q] = true) (w : World) (hv : VarR w) :
    Calls Tryz.prog 9 #[.string (rq q), .int .u8 3] w fun e w' => e = .returned (.bool true) ∧ Below w.heap.size w w' := by
  have H0 := fun W hW => Round_q3 q (hq.sml (by omega)) W hW
  obtain ⟨k, ch, b1, b2, b3, b4, b5, b6⟩ := even_byte (rndQ 3 q) (rndQ_abs 3 (hq.sml (by omega)))
  by_cases h1 : q.den = 1
  · obtain ⟨e1, e2, e3⟩ := near_whole 3 q h1
    obtain ⟨g, eg⟩ : ∃ g, cmpZ q.num 0 = g := ⟨_, rfl⟩
    obtain ⟨sd, sz, sn, sden, K1, K2, K3, K4, K5, K6, K7, K8, K9, _, KB⟩ := near_pack 3 q hq 0 g (-1) (by rw [e2]; rfl) eg (by rw [e2, h1]; rfl) (by rw [e2, h1]; rfl)
    obtain ⟨⟨c1, c2⟩, c3⟩ := KB (by decide)
    rw [e3] at H0 K1 K2 b1 b3
    rw [decide_eq_true h1] at K8
    exact near_3_z (rq q) sd sz sn sden g k ch b1 b2 b3 b4 b5 w hv hf c1 c2 c3 K9 H0 K1 K2 K3 K4 K5 K6 K7 K8
  · obtain ⟨eo, s, g, h, es, eg, eh, f0, f1, f4, f2, f3, fs⟩ := near_facts 3 q (by decide) h1
    obtain ⟨sd, sz, sn, sden, K1, K2, K3, K4, K5, K6, K7, K8, K9, KA, KB⟩ := near_pack 3 q hq s g h es eg eh eo
    rw [decide_eq_false h1] at K8
    clear es eg eh eo
    rcases f3 rfl with rfl | ⟨rfl, he⟩
    · rcases fs with rfl | rfl
      · obtain ⟨⟨c1, c2⟩, c3⟩ := KA rfl; exact near_3_a0 (rq q) _ sd sz sn sden g k ch b1 b2 b3 b4 b5 w hv hf c1 c2 c3 K9 H0 K1 K2 K3 K4 K5 K6 K7 K8
      · obtain ⟨⟨c1, c2⟩, c3⟩ := KB (by decide); exact near_3_a2 (rq q) _ sd sz sn sden g k ch b1 b2 b3 b4 b5 w hv hf c1 c2 c3 K9 H0 K1 K2 K3 K4 K5 K6 K7 K8
    · rcases fs with rfl | rfl
      · obtain ⟨⟨c1, c2⟩, c3⟩ := KA rfl; exact near_3_b0 (rq q) _ sd sz sn sden g k ch b1 b2 b3 b4 b5 (b6 he) w hv hf c1 c2 c3 K9 H0 K1 K2 K3 K4 K5 K6 K7 K8
      · obtain ⟨⟨c1, c2⟩, c3⟩ := KB (by decide); exact near_3_b2 (rq q) _ sd sz sn sden g k ch b1 b2 b3 b4 b5 (b6 he) w hv hf c1 c2 c3 K9 H0 K1 K2 K3 K4 K5 K6 K7 K8
theorem near_law4 (q : Rat) (hq : QD 400 q) (hf : fitR 400 [rq q] = true) (w : World) (hv : VarR w) :
    Calls Tryz.prog 9 #[.string (rq q), .int .u8 4] w fun e w' => e = .returned (.bool true) ∧ Below w.heap.size w w' := by
  have H0 := fun W hW => Round_q4 q (hq.sml (by omega)) W hW
  by_cases h1 : q.den = 1
  · obtain ⟨e1, e2, e3⟩ := near_whole 4 q h1
    obtain ⟨g, eg⟩ : ∃ g, cmpZ q.num 0 = g := ⟨_, rfl⟩
    obtain ⟨sd, sz, sn, sden, K1, K2, K3, K4, K5, K6, K7, K8, K9, _, KB⟩ := near_pack 4 q hq 0 g (-1) (by rw [e2]; rfl) eg (by rw [e2, h1]; rfl) (by rw [e2, h1]; rfl)
    obtain ⟨⟨c1, c2⟩, c3⟩ := KB (by decide)
    rw [e3] at H0 K1 K2
    rw [decide_eq_true h1] at K8
    exact near_4_z (rq q) sd sz sn sden g w hv hf c1 c2 c3 K9 H0 K1 K2 K3 K4 K5 K6 K7 K8
  · obtain ⟨eo, s, g, h, es, eg, eh, f0, f1, f4, f2, f3, fs⟩ := near_facts 4 q (by decide) h1
    obtain ⟨sd, sz, sn, sden, K1, K2, K3, K4, K5, K6, K7, K8, K9, KA, KB⟩ := near_pack 4 q hq s g h es eg eh eo
    rw [decide_eq_false h1] at K8
    clear es eg eh eo
    obtain rfl := f4 rfl
    obtain ⟨⟨c1, c2⟩, c3⟩ := KA rfl; exact near_4_0 (rq q) _ sd sz sn sden g h w hv hf c1 c2 c3 K9 H0 K1 K2 K3 K4 K5 K6 K7 K8
set_option maxRecDepth 100000 in
set_option maxHeartbeats 6400000 in
theorem near_fit (sa : ByteArray) (m : Int) (hf : fitR 400 [sa] = false) (w : World) (hv : VarR w) :
    Calls Tryz.prog 9 #[.string sa, .int .u8 m] w fun e w' => e = .returned (.bool true) ∧ Below w.heap.size w w' := by
  have HAL := Lib.hid ralive_any
  have HV := Lib.hid hv
  have HF := Lib.hid (rfits_one 400 (by omega) sa false hf)
  clear hf hv
  go_enter Tryz.func9, Tryz.ntmps9
  go_wp2_with (first
    | (go_at_call 22; refine (HAL.out _ HV.out).mono ?_; rintro e w0 ⟨rfl, b0⟩; have B0 := Lib.hid b0; clear b0)
    | (go_at_call 34; refine (HF.out _ _).mono ?_; rintro e u0 ⟨rfl, b⟩; have D0 := Lib.hid (bt (bt B0.out ((Below.refl _ w0).alloc (Nat.le_refl _) _)) b); clear b))
  go_ret
  exact ⟨rfl, D0.out⟩
set_option maxRecDepth 100000 in
set_option maxHeartbeats 6400000 in
theorem near_mode (sa : ByteArray) (m : Int) (hf : fitR 400 [sa] = true) (h5 : 5 ≤ m) (h255 : m ≤ 255) (w : World) (hv : VarR w) :
    Calls Tryz.prog 9 #[.string sa, .int .u8 m] w fun e w' => e = .returned (.bool true) ∧ Below w.heap.size w w' := by
  have HAL := Lib.hid ralive_any
  have HV := Lib.hid hv
  have HF := Lib.hid (rfits_one 400 (by omega) sa true hf)
  clear hf hv
  go_enter Tryz.func9, Tryz.ntmps9
  go_wp2_with (first
    | (go_at_call 22; refine (HAL.out _ HV.out).mono ?_; rintro e w0 ⟨rfl, b0⟩; have B0 := Lib.hid b0; clear b0)
    | (go_at_call 34; refine (HF.out _ _).mono ?_; rintro e u0 ⟨rfl, b⟩; have D0 := Lib.hid (bt (bt B0.out ((Below.refl _ w0).alloc (Nat.le_refl _) _)) b); clear b))
  go_ret
  exact ⟨rfl, D0.out⟩
theorem near_law (sa : ByteArray) (m : Int) (h0 : 0 ≤ m) (h255 : m ≤ 255) (w : World) (hv : VarR w) :
    Calls Tryz.prog 9 #[.string sa, .int .u8 m] w fun e w' => e = .returned (.bool true) ∧ Below w.heap.size w w' := by
  by_cases hf : fitR 400 [sa] = true
  · by_cases h5 : 5 ≤ m
    · exact near_mode sa m hf h5 h255 w hv
    obtain ⟨i1, j1⟩ := rfit_one hf
    obtain ⟨q, rfl, hq⟩ := qd_of j1 i1 (by omega)
    have hm : m = 0 ∨ m = 1 ∨ m = 2 ∨ m = 3 ∨ m = 4 := by omega
    rcases hm with rfl | rfl | rfl | rfl | rfl
    · exact near_law0 q hq hf w hv
    · exact near_law1 q hq hf w hv
    · exact near_law2 q hq hf w hv
    · exact near_law3 q hq hf w hv
    · exact near_law4 q hq hf w hv
  · exact near_fit sa m (by simpa using hf) w hv
end Go.Proofs.YtgjhgkglfflmjaaGreatDoor

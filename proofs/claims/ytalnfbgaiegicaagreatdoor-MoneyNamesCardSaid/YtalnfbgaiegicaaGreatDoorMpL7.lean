/- Layer 7: the walk of MoneyNames. -/
import Derived.Test.YtalnfbgaiegicaaGreatDoorMpA
import Derived.Test.YtalnfbgaiegicaaGreatDoorMpU
namespace Go.Proofs.YtalnfbgaiegicaaGreatDoor
open Go Go.RowKit

section
set_option maxRecDepth 100000
set_option maxHeartbeats 3200000
theorem form_walk (s : ByteArray) (e : Int) (w : World) (H : Calls Tryz.prog 23 #[.string s] w (RdR 0 ⟨#[]⟩ e w)) :
    Calls Tryz.prog 15 #[.string s, .int .i64 e] w (BoM true w) := by
  have J1 := Lib.hid H
  have q1 : (e == e) = true := by simp
  clear H
  go_enter Tryz.func15, Tryz.ntmps15
  go_wp2_with (go_at_call 23; ((with_reducible refine J1.out.mono ?_); rintro x w1 ⟨rfl, b⟩; have B1 := Lib.hid b; clear b))
  go_ret
  exact ⟨rfl, B1.out⟩
end
theorem form_is (s : ByteArray) (e : Int) (hs : s.size ≤ 1048575) (h1 : rdN7 s.data.toList = 0) (h2 : rdC7 s.data.toList = []) (h3 : rdE7 s.data.toList = e) (w : World) (hv : VarM w) :
    Calls Tryz.prog 15 #[.string s, .int .i64 e] w (BoM true w) := by
  have := pread_any s hs w hv
  rw [h1, h2, h3] at this
  exact form_walk s e w this
theorem split_no (t : Int) (ws : List Int) (vs : Array Value) (n : Nat) (hn : ws.length = n) (h : vs.toList = ws.map encM) (hE : spE t ws = 2) (W : World) (ty : TypeId) :
    Calls Tryz.prog 13 #[.int .i64 t, .slice (some ⟨W.heap.size, 0, none⟩) n n] (W.alloc (.cells vs ty)) fun e w' => e = .returned (.tuple #[.slice none 0 0, .int .i64 2]) ∧ Below W.heap.size W w' := by
  subst hn
  refine (psplit_any t _ _ ws _ (hsA_lit W _ rfl vs ty ws h)).mono ?_
  rintro e w' (⟨-, rfl, hb⟩ | ⟨h1, -⟩)
  · exact ⟨rfl, btM (belM W _) hb⟩
  · rw [hE] at h1; cases h1
theorem sum_lit (xs : List Int) (vs : Array Value) (n : Nat) (hn : xs.length = n) (h : vs.toList = xs.map encM) (v e : Int) (h1 : suV xs = v) (h2 : suE xs = e) (W : World) (ty : TypeId) :
    Calls Tryz.prog 14 #[.slice (some ⟨W.heap.size, 0, none⟩) n n] (W.alloc (.cells vs ty)) fun x w' => x = .returned (.tuple #[.int .i64 v, .int .i64 e]) ∧ Below W.heap.size W w' := by
  subst hn; subst h1; subst h2
  refine (psum_any _ _ xs _ (hsA_lit W _ rfl vs ty xs h)).mono ?_
  rintro e w' ⟨rfl, rfl⟩
  exact ⟨rfl, belM W _⟩
section
set_option maxRecDepth 1000000
set_option maxHeartbeats 16000000
theorem names_law (w : World) (hv : VarM w) : Calls Tryz.prog 3 #[] w (BoM true w) := by
  have HV := Lib.hid hv
  have HAL := Lib.hid (fun W hW => alive7_any W hW)
  have J0 : Hid (∀ W, Calls Tryz.prog 10 #[.string ⟨#[75, 82, 87]⟩] W (UnR 0 0 W)) := fun W => by
      have := punit_any ⟨#[75, 82, 87]⟩ W
      rw [show unV (⟨#[75, 82, 87]⟩ : ByteArray).data.toList = 0 by decide +kernel, show unE (⟨#[75, 82, 87]⟩ : ByteArray).data.toList = 0 by decide +kernel] at this
      exact this
  have J1 : Hid (∀ W, Calls Tryz.prog 10 #[.string ⟨#[120, 45, 49, 95, 90]⟩] W (UnR 2 0 W)) := fun W => by
      have := punit_any ⟨#[120, 45, 49, 95, 90]⟩ W
      rw [show unV (⟨#[120, 45, 49, 95, 90]⟩ : ByteArray).data.toList = 2 by decide +kernel, show unE (⟨#[120, 45, 49, 95, 90]⟩ : ByteArray).data.toList = 0 by decide +kernel] at this
      exact this
  have J2 : Hid (∀ W, Calls Tryz.prog 10 #[.string ⟨#[49, 120]⟩] W (UnR 0 2 W)) := fun W => by
      have := punit_any ⟨#[49, 120]⟩ W
      rw [show unV (⟨#[49, 120]⟩ : ByteArray).data.toList = 0 by decide +kernel, show unE (⟨#[49, 120]⟩ : ByteArray).data.toList = 2 by decide +kernel] at this
      exact this
  have J3 : Hid (∀ W, VarM W → Calls Tryz.prog 11 #[.string ⟨#[49]⟩, .string ⟨#[69, 85, 82]⟩, .int .u8 5] W (UnR 0 2 W)) := fun W hW => by
      have := ptounits_any ⟨#[49]⟩ ⟨#[69, 85, 82]⟩ (by decide) 5 (by decide) (by decide) W hW
      rw [show tuV (⟨#[49]⟩ : ByteArray).data.toList (⟨#[69, 85, 82]⟩ : ByteArray).data.toList 5 = 0 by decide +kernel, show tuE (⟨#[49]⟩ : ByteArray).data.toList (⟨#[69, 85, 82]⟩ : ByteArray).data.toList 5 = 2 by decide +kernel] at this
      exact this
  have J4 : Hid (∀ W, VarM W → Calls Tryz.prog 11 #[.string ⟨#[50, 47, 52]⟩, .string ⟨#[69, 85, 82]⟩, .int .u8 0] W (UnR 0 12 W)) := fun W hW => by
      have := ptounits_any ⟨#[50, 47, 52]⟩ ⟨#[69, 85, 82]⟩ (by decide) 0 (by decide) (by decide) W hW
      rw [show tuV (⟨#[50, 47, 52]⟩ : ByteArray).data.toList (⟨#[69, 85, 82]⟩ : ByteArray).data.toList 0 = 0 by decide +kernel, show tuE (⟨#[50, 47, 52]⟩ : ByteArray).data.toList (⟨#[69, 85, 82]⟩ : ByteArray).data.toList 0 = 12 by decide +kernel] at this
      exact this
  have J5 : Hid (∀ W, VarM W → Calls Tryz.prog 11 #[.string ⟨#[49, 49, 50, 53, 56, 57, 57, 57, 48, 54, 56, 52, 50, 54, 46, 50, 53]⟩, .string ⟨#[69, 85, 82]⟩, .int .u8 0] W (UnR 0 12 W)) := fun W hW => by
      have := ptounits_any ⟨#[49, 49, 50, 53, 56, 57, 57, 57, 48, 54, 56, 52, 50, 54, 46, 50, 53]⟩ ⟨#[69, 85, 82]⟩ (by decide) 0 (by decide) (by decide) W hW
      rw [show tuV (⟨#[49, 49, 50, 53, 56, 57, 57, 57, 48, 54, 56, 52, 50, 54, 46, 50, 53]⟩ : ByteArray).data.toList (⟨#[69, 85, 82]⟩ : ByteArray).data.toList 0 = 0 by decide +kernel, show tuE (⟨#[49, 49, 50, 53, 56, 57, 57, 57, 48, 54, 56, 52, 50, 54, 46, 50, 53]⟩ : ByteArray).data.toList (⟨#[69, 85, 82]⟩ : ByteArray).data.toList 0 = 12 by decide +kernel] at this
      exact this
  have J6 : Hid (∀ W, VarM W → Calls Tryz.prog 11 #[.string ⟨#[49, 49, 50, 53, 56, 57, 57, 57, 48, 54, 56, 52, 50, 55]⟩, .string ⟨#[69, 85, 82]⟩, .int .u8 0] W (UnR 0 14 W)) := fun W hW => by
      have := ptounits_any ⟨#[49, 49, 50, 53, 56, 57, 57, 57, 48, 54, 56, 52, 50, 55]⟩ ⟨#[69, 85, 82]⟩ (by decide) 0 (by decide) (by decide) W hW
      rw [show tuV (⟨#[49, 49, 50, 53, 56, 57, 57, 57, 48, 54, 56, 52, 50, 55]⟩ : ByteArray).data.toList (⟨#[69, 85, 82]⟩ : ByteArray).data.toList 0 = 0 by decide +kernel, show tuE (⟨#[49, 49, 50, 53, 56, 57, 57, 57, 48, 54, 56, 52, 50, 55]⟩ : ByteArray).data.toList (⟨#[69, 85, 82]⟩ : ByteArray).data.toList 0 = 14 by decide +kernel] at this
      exact this
  have J7 : Hid (∀ W, VarM W → Calls Tryz.prog 11 #[.string ⟨#[50, 56, 49, 52, 55, 52, 57, 55, 54, 55, 49, 48, 54, 53, 54, 47, 50, 53]⟩, .string ⟨#[69, 85, 82]⟩, .int .u8 0] W (UnR 1125899906842624 0 W)) := fun W hW => by
      have := ptounits_any ⟨#[50, 56, 49, 52, 55, 52, 57, 55, 54, 55, 49, 48, 54, 53, 54, 47, 50, 53]⟩ ⟨#[69, 85, 82]⟩ (by decide) 0 (by decide) (by decide) W hW
      rw [show tuV (⟨#[50, 56, 49, 52, 55, 52, 57, 55, 54, 55, 49, 48, 54, 53, 54, 47, 50, 53]⟩ : ByteArray).data.toList (⟨#[69, 85, 82]⟩ : ByteArray).data.toList 0 = 1125899906842624 by decide +kernel, show tuE (⟨#[50, 56, 49, 52, 55, 52, 57, 55, 54, 55, 49, 48, 54, 53, 54, 47, 50, 53]⟩ : ByteArray).data.toList (⟨#[69, 85, 82]⟩ : ByteArray).data.toList 0 = 0 by decide +kernel] at this
      exact this
  have J8 : Hid (∀ W, VarM W → Calls Tryz.prog 12 #[.int .i64 (-250), .string ⟨#[69, 85, 82]⟩] W (StE ⟨#[45, 53, 47, 50]⟩ 0 W)) := fun W hW => by
      have := pfromunits_any (-250) ⟨#[69, 85, 82]⟩ W hW
      rw [show fuT (-250) (⟨#[69, 85, 82]⟩ : ByteArray).data.toList = ⟨#[45, 53, 47, 50]⟩ by decide +kernel, show fuE (-250) (⟨#[69, 85, 82]⟩ : ByteArray).data.toList = 0 by decide +kernel] at this
      exact this
  have J9 : Hid (∀ W, VarM W → Calls Tryz.prog 12 #[.int .i64 (1125899906842625), .string ⟨#[69, 85, 82]⟩] W (StE ⟨#[]⟩ 2 W)) := fun W hW => by
      have := pfromunits_any (1125899906842625) ⟨#[69, 85, 82]⟩ W hW
      rw [show fuT (1125899906842625) (⟨#[69, 85, 82]⟩ : ByteArray).data.toList = ⟨#[]⟩ by decide +kernel, show fuE (1125899906842625) (⟨#[69, 85, 82]⟩ : ByteArray).data.toList = 2 by decide +kernel] at this
      exact this
  have S0 : Hid (∀ W, Calls Tryz.prog 13 #[.int .i64 1, .slice none 0 0] W fun e w' => e = .returned (.tuple #[.slice none 0 0, .int .i64 2]) ∧ Below W.heap.size W w') := fun W => by
    refine (psplit_any 1 none 0 [] W (.inl rfl)).mono ?_
    rintro e w' (⟨-, rfl, hb⟩ | ⟨h1, -⟩)
    · exact ⟨rfl, hb⟩
    · exact absurd h1 (by decide +kernel)
  have S1 := Lib.hid (split_no 1 [0, 0] #[.int .i64 0, .int .i64 0] 2 rfl rfl (by decide +kernel))
  have S2 := Lib.hid (split_no 1 [1, -1] #[.int .i64 1, .int .i64 (-1)] 2 rfl rfl (by decide +kernel))
  have S3 := Lib.hid (split_no 1 [4001] #[.int .i64 4001] 1 rfl rfl (by decide +kernel))
  have S4 := Lib.hid (split_no 1125899906842625 [1] #[.int .i64 1] 1 rfl rfl (by decide +kernel))
  have S5 : Hid (∀ b W, Calls Tryz.prog 13 #[.int .i64 1, .slice (some ⟨b, 0, none⟩) 101 101] W fun e w' => e = .returned (.tuple #[.slice none 0 0, .int .i64 2]) ∧ W = w') := fun b W => psplit_bad 1 _ 101 101 W (.inr ⟨by decide, by omega⟩)
  have T0 := Lib.hid (sum_lit [1125899906842624, 1] #[.int .i64 1125899906842624, .int .i64 1] 2 rfl rfl 0 14 (by decide +kernel) (by decide +kernel))
  have T1 := Lib.hid (sum_lit [1125899906842624, -1125899906842624] #[.int .i64 1125899906842624, .int .i64 (-1125899906842624)] 2 rfl rfl 0 0 (by decide +kernel) (by decide +kernel))
  have T2 := Lib.hid (sum_lit [1125899906842625] #[.int .i64 1125899906842625] 1 rfl rfl 0 2 (by decide +kernel) (by decide +kernel))
  have T3 : Hid (∀ b W, Calls Tryz.prog 14 #[.slice (some ⟨b, 0, none⟩) 5001 5001] W fun e w' => e = .returned (.tuple #[.int .i64 0, .int .i64 4]) ∧ W = w') := fun b W => psum_many _ 5001 5001 (by omega) W
  have F0 := Lib.hid (form_is ⟨#[45, 48, 46, 48, 48, 32, 69, 85, 82]⟩ 12 (by decide) (by decide +kernel) (by decide +kernel) (by decide +kernel))
  have F1 := Lib.hid (form_is ⟨#[48, 48, 46, 49, 48, 32, 69, 85, 82]⟩ 12 (by decide) (by decide +kernel) (by decide +kernel) (by decide +kernel))
  have F2 := Lib.hid (form_is ⟨#[49, 46, 53, 32, 69, 85, 82]⟩ 12 (by decide) (by decide +kernel) (by decide +kernel) (by decide +kernel))
  have F3 := Lib.hid (form_is ⟨#[49, 53, 32, 69, 85, 82]⟩ 12 (by decide) (by decide +kernel) (by decide +kernel) (by decide +kernel))
  have F4 := Lib.hid (form_is ⟨#[49, 46, 32, 74, 80, 89]⟩ 12 (by decide) (by decide +kernel) (by decide +kernel) (by decide +kernel))
  have F5 := Lib.hid (form_is ⟨#[49, 46, 48, 48, 32, 32, 69, 85, 82]⟩ 12 (by decide) (by decide +kernel) (by decide +kernel) (by decide +kernel))
  have F6 := Lib.hid (form_is ⟨#[]⟩ 12 (by decide) (by decide +kernel) (by decide +kernel) (by decide +kernel))
  have F7 := Lib.hid (form_is ⟨#[49, 46, 48, 48]⟩ 12 (by decide) (by decide +kernel) (by decide +kernel) (by decide +kernel))
  have F8 := Lib.hid (form_is ⟨#[46, 53, 48, 32, 69, 85, 82]⟩ 12 (by decide) (by decide +kernel) (by decide +kernel) (by decide +kernel))
  have F9 := Lib.hid (form_is ⟨#[45, 32, 69, 85, 82]⟩ 12 (by decide) (by decide +kernel) (by decide +kernel) (by decide +kernel))
  have F10 := Lib.hid (form_is ⟨#[49, 49, 50, 53, 56, 57, 57, 57, 48, 54, 56, 52, 50, 54, 46, 50, 53, 32, 69, 85, 82]⟩ 14 (by decide) (by decide +kernel) (by decide +kernel) (by decide +kernel))
  have F11 := Lib.hid (form_is ⟨#[45, 57, 57, 57, 57, 57, 57, 57, 57, 57, 57, 57, 57, 57, 57, 57, 57, 57, 57, 57, 57, 57, 57, 57, 46, 57, 57, 32, 69, 85, 82]⟩ 14 (by decide) (by decide +kernel) (by decide +kernel) (by decide +kernel))
  have K0 := Lib.hid (shows_is (1125899906842624) ⟨#[69, 85, 82]⟩ ⟨#[49, 49, 50, 53, 56, 57, 57, 57, 48, 54, 56, 52, 50, 54, 46, 50, 52, 32, 69, 85, 82]⟩ (by decide +kernel) (by decide +kernel) (by decide +kernel) (by decide))
  have K1 := Lib.hid (shows_is (0) ⟨#[69, 85, 82]⟩ ⟨#[48, 46, 48, 48, 32, 69, 85, 82]⟩ (by decide +kernel) (by decide +kernel) (by decide +kernel) (by decide))
  have K2 := Lib.hid (shows_is (-5) ⟨#[69, 85, 82]⟩ ⟨#[45, 48, 46, 48, 53, 32, 69, 85, 82]⟩ (by decide +kernel) (by decide +kernel) (by decide +kernel) (by decide))
  obtain ⟨i0, hi, hz0, hz1, hz2⟩ : ∃ i0, Tryz.prog.info? 3 = some i0 ∧ i0.zero = some (.int .i64 0) ∧ i0.size = 1 ∧ i0.bytes = 8 := by
    have := infoM
    cases h : Tryz.prog.info? 3 with
    | none => rw [h] at this; cases this
    | some i0 =>
      rw [h] at this
      simp only [Option.map_some, Option.some.injEq, Prod.mk.injEq] at this
      exact ⟨i0, rfl, this.1, this.2.1, this.2.2⟩
  clear hv
  go_enter Tryz.func3, Tryz.ntmps3
  go_wp2_with (first
    | (go_at_call 10; ((with_reducible refine (J0.out _).mono ?_); rintro e w1 ⟨rfl, b⟩; have B1 := Lib.hid (btM (Below.refl _ w) b); clear b))
    | (go_at_call 10; ((with_reducible refine (J1.out _).mono ?_); rintro e w2 ⟨rfl, b⟩; have B2 := Lib.hid (btM B1.out b); clear b))
    | (go_at_call 10; ((with_reducible refine (J2.out _).mono ?_); rintro e w3 ⟨rfl, b⟩; have B3 := Lib.hid (btM B2.out b); clear b))
    | (go_at_call 11; ((with_reducible refine (J3.out _ (HV.out.below B3.out)).mono ?_); rintro e w4 ⟨rfl, b⟩; have B4 := Lib.hid (btM B3.out b); clear b))
    | (go_at_call 11; ((with_reducible refine (J4.out _ (HV.out.below B4.out)).mono ?_); rintro e w5 ⟨rfl, b⟩; have B5 := Lib.hid (btM B4.out b); clear b))
    | (go_at_call 11; ((with_reducible refine (J5.out _ (HV.out.below B5.out)).mono ?_); rintro e w6 ⟨rfl, b⟩; have B6 := Lib.hid (btM B5.out b); clear b))
    | (go_at_call 11; ((with_reducible refine (J6.out _ (HV.out.below B6.out)).mono ?_); rintro e w7 ⟨rfl, b⟩; have B7 := Lib.hid (btM B6.out b); clear b))
    | (go_at_call 11; ((with_reducible refine (J7.out _ (HV.out.below B7.out)).mono ?_); rintro e w8 ⟨rfl, b⟩; have B8 := Lib.hid (btM B7.out b); clear b))
    | (go_at_call 12; ((with_reducible refine (J8.out _ (HV.out.below B8.out)).mono ?_); rintro e w9 ⟨rfl, b⟩; have B9 := Lib.hid (btM B8.out b); clear b))
    | (go_at_call 12; ((with_reducible refine (J9.out _ (HV.out.below B9.out)).mono ?_); rintro e w10 ⟨rfl, b⟩; have B10 := Lib.hid (btM B9.out b); clear b))
    | (go_at_call 13; ((with_reducible refine (S0.out _).mono ?_); rintro e w11 ⟨rfl, b⟩; have B11 := Lib.hid (btM B10.out b); clear b))
    | (go_at_call 13; ((with_reducible refine (S1.out _ _).mono ?_); rintro e w12 ⟨rfl, b⟩; have B12 := Lib.hid (btM B11.out b); clear b))
    | (go_at_call 13; ((with_reducible refine (S2.out _ _).mono ?_); rintro e w13 ⟨rfl, b⟩; have B13 := Lib.hid (btM B12.out b); clear b))
    | (go_at_call 13; ((with_reducible refine (S3.out _ _).mono ?_); rintro e w14 ⟨rfl, b⟩; have B14 := Lib.hid (btM B13.out b); clear b))
    | (go_at_call 13; ((with_reducible refine (S4.out _ _).mono ?_); rintro e w15 ⟨rfl, b⟩; have B15 := Lib.hid (btM B14.out b); clear b))
    | (at_make; refine wpList_make_full w15 rfl _ _ 29 rfl w15.heap.size 3 i0 (.int .i64 0) 1 Tryz.underlying29 hi hz0 hz1 _ _ _ _ 101 rfl rfl (by omega) (by omega) (by rw [hz2]; omega) (by unfold maxLen; omega) (Nat.le_refl _) ?_; intro w16 o16 g16; have B16 := Lib.hid (btM B15.out ((Below.refl _ _).grown g16 (Nat.le_refl _) (fun k hk => by cases hk))); clear o16 g16)
    | (go_at_call 13; ((with_reducible refine (S5.out _ _).mono ?_); rintro e w905 ⟨rfl, rfl⟩))
    | (go_at_call 14; ((with_reducible refine (T0.out _ _).mono ?_); rintro e w17 ⟨rfl, b⟩; have B17 := Lib.hid (btM B16.out b); clear b))
    | (go_at_call 14; ((with_reducible refine (T1.out _ _).mono ?_); rintro e w18 ⟨rfl, b⟩; have B18 := Lib.hid (btM B17.out b); clear b))
    | (go_at_call 14; ((with_reducible refine (T2.out _ _).mono ?_); rintro e w19 ⟨rfl, b⟩; have B19 := Lib.hid (btM B18.out b); clear b))
    | (at_make; refine wpList_make_full w19 rfl _ _ 29 rfl w19.heap.size 3 i0 (.int .i64 0) 1 Tryz.underlying29 hi hz0 hz1 _ _ _ _ 5001 rfl rfl (by omega) (by omega) (by rw [hz2]; omega) (by unfold maxLen; omega) (Nat.le_refl _) ?_; intro w20 o20 g20; have B20 := Lib.hid (btM B19.out ((Below.refl _ _).grown g20 (Nat.le_refl _) (fun k hk => by cases hk))); clear o20 g20)
    | (go_at_call 14; ((with_reducible refine (T3.out _ _).mono ?_); rintro e w953 ⟨rfl, rfl⟩))
    | (go_at_call 15; ((with_reducible refine (F0.out _ (HV.out.below B20.out)).mono ?_); rintro e w21 ⟨rfl, b⟩; have B21 := Lib.hid (btM B20.out b); clear b))
    | (go_at_call 15; ((with_reducible refine (F1.out _ (HV.out.below B21.out)).mono ?_); rintro e w22 ⟨rfl, b⟩; have B22 := Lib.hid (btM B21.out b); clear b))
    | (go_at_call 15; ((with_reducible refine (F2.out _ (HV.out.below B22.out)).mono ?_); rintro e w23 ⟨rfl, b⟩; have B23 := Lib.hid (btM B22.out b); clear b))
    | (go_at_call 15; ((with_reducible refine (F3.out _ (HV.out.below B23.out)).mono ?_); rintro e w24 ⟨rfl, b⟩; have B24 := Lib.hid (btM B23.out b); clear b))
    | (go_at_call 15; ((with_reducible refine (F4.out _ (HV.out.below B24.out)).mono ?_); rintro e w25 ⟨rfl, b⟩; have B25 := Lib.hid (btM B24.out b); clear b))
    | (go_at_call 15; ((with_reducible refine (F5.out _ (HV.out.below B25.out)).mono ?_); rintro e w26 ⟨rfl, b⟩; have B26 := Lib.hid (btM B25.out b); clear b))
    | (go_at_call 15; ((with_reducible refine (F6.out _ (HV.out.below B26.out)).mono ?_); rintro e w27 ⟨rfl, b⟩; have B27 := Lib.hid (btM B26.out b); clear b))
    | (go_at_call 15; ((with_reducible refine (F7.out _ (HV.out.below B27.out)).mono ?_); rintro e w28 ⟨rfl, b⟩; have B28 := Lib.hid (btM B27.out b); clear b))
    | (go_at_call 15; ((with_reducible refine (F8.out _ (HV.out.below B28.out)).mono ?_); rintro e w29 ⟨rfl, b⟩; have B29 := Lib.hid (btM B28.out b); clear b))
    | (go_at_call 15; ((with_reducible refine (F9.out _ (HV.out.below B29.out)).mono ?_); rintro e w30 ⟨rfl, b⟩; have B30 := Lib.hid (btM B29.out b); clear b))
    | (go_at_call 15; ((with_reducible refine (F10.out _ (HV.out.below B30.out)).mono ?_); rintro e w31 ⟨rfl, b⟩; have B31 := Lib.hid (btM B30.out b); clear b))
    | (go_at_call 15; ((with_reducible refine (F11.out _ (HV.out.below B31.out)).mono ?_); rintro e w32 ⟨rfl, b⟩; have B32 := Lib.hid (btM B31.out b); clear b))
    | (go_at_call 16; ((with_reducible refine (K0.out _ (HV.out.below B32.out)).mono ?_); rintro e w33 ⟨rfl, b⟩; have B33 := Lib.hid (btM B32.out b); clear b))
    | (go_at_call 16; ((with_reducible refine (K1.out _ (HV.out.below B33.out)).mono ?_); rintro e w34 ⟨rfl, b⟩; have B34 := Lib.hid (btM B33.out b); clear b))
    | (go_at_call 16; ((with_reducible refine (K2.out _ (HV.out.below B34.out)).mono ?_); rintro e w35 ⟨rfl, b⟩; have B35 := Lib.hid (btM B34.out b); clear b))
    | (go_at_call 17; ((with_reducible refine (HAL.out _ (HV.out.below B35.out)).mono ?_); rintro e w36 ⟨rfl, b⟩; have B36 := Lib.hid (btM B35.out b); clear b)))
  go_ret
  exact ⟨rfl, B36.out⟩
end
end Go.Proofs.YtalnfbgaiegicaaGreatDoor

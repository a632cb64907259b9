/- Layer 6: the walk of the law ScheduleNames. -/
import Derived.Test.YtfheeipggedaiaaDoorScL8
import Derived.BigQuiet
namespace Go.Proofs.YtfheeipggedaiaaDoor
open Go Go.RowKit

theorem nm6_p3 (W : World) (b : Nat) (hb : b = W.heap.size) (hV : VarD (W.alloc (.cells #[.int .i64 99999] 3))) : Calls Tryd.prog 14 #[.agg #[.int .i64 99998, .int .i64 99999, .int .i64 1, .bool false, .bool false, .int .u8 0, .int .u8 1, .int .u8 0, .slice (some ⟨b, 0, none⟩) 1 1]] (W.alloc (.cells #[.int .i64 99999] 3)) (PrsP [] 40 (W.alloc (.cells #[.int .i64 99999] 3))) :=
  nm6_p2 b _ (hs_at W [99999] 3 b hb) hV
theorem same_nm (A : Option Addr) (c : Nat) (w : World) (b : Nat) (hb : b = w.heap.size) (hA : HsP w A nmP) : Calls Tryd.prog 16 #[.slice A nmP.length c, .slice (some ⟨b, 0, none⟩) 3 3] (w.alloc (.cells #[.int .i64 45304, .int .i64 45364, .int .i64 45304, .int .i64 45364, .int .i64 45364, .int .i64 45425, .int .i64 45364, .int .i64 45425, .int .i64 45425, .int .i64 45472, .int .i64 45425, .int .i64 45472] 41)) (BolS true (w.alloc (.cells #[.int .i64 45304, .int .i64 45364, .int .i64 45304, .int .i64 45364, .int .i64 45364, .int .i64 45425, .int .i64 45364, .int .i64 45425, .int .i64 45425, .int .i64 45472, .int .i64 45425, .int .i64 45472] 41))) := by
  subst hb
  exact samePs_any A _ c 3 nmP nmP true (by simp) (by decide) _ (hA.below (belE_c _ _)) (hsP_new w nmP _)
theorem hsP_nm (w : World) : HsP (w.alloc (.cells #[.int .i64 45304, .int .i64 45364, .int .i64 45304, .int .i64 45364, .int .i64 45364, .int .i64 45425, .int .i64 45364, .int .i64 45425, .int .i64 45425, .int .i64 45472, .int .i64 45425, .int .i64 45472] 41)) (some ⟨w.heap.size, 0, none⟩) nmP := hsP_new w nmP _
set_option maxRecDepth 100000 in
set_option maxHeartbeats 6400000 in
theorem names_law6 (w : World) (hV : VarD w) : Calls Tryd.prog 3 #[] w (OkS w) := by
  have HV := Lib.hid hV
  have HF1 := Lib.hid (fun W hV => nm6_f 45303 0 6 (by decide +kernel) (by decide +kernel) W hV)
  have HF2 := Lib.hid (fun W hV => nm6_f 45472 0 6 (by decide +kernel) (by decide +kernel) W hV)
  have HF3 := Lib.hid (fun W hV => nm6_f (-1) 0 2 (by decide +kernel) (by decide +kernel) W hV)
  have HF4 := Lib.hid (fun W hV => nm6_f 45304 0 0 (by decide +kernel) (by decide +kernel) W hV)
  have HF5 := Lib.hid (fun W hV => nm6_f 45471 2 0 (by decide +kernel) (by decide +kernel) W hV)
  have HC0 := Lib.hid (nm6_c 5 5 1 0 0 0 (by decide) (by decide +kernel))
  have HC1 := Lib.hid (nm6_c (-1) 5 1 0 0 0 (by decide) (by decide +kernel))
  have HC2 := Lib.hid (nm6_c 1 100000 1 0 0 0 (by decide) (by decide +kernel))
  have HC3 := Lib.hid (nm6_c 1 5 0 0 0 0 (by decide) (by decide +kernel))
  have HC4 := Lib.hid (nm6_c 1 5 1201 0 0 0 (by decide) (by decide +kernel))
  have HC5 := Lib.hid (nm6_c 1 5 1 2 0 0 (by decide) (by decide +kernel))
  have HC6 := Lib.hid (nm6_c 1 5 1 0 5 0 (by decide) (by decide +kernel))
  have HC7 := Lib.hid (nm6_c 1 5 1 0 0 127 (by decide) (by decide +kernel))
  clear hV
  go_enter Tryd.func3, Tryd.ntmps3
  go_wp2_with (first
    | (go_at_call 10; ((with_reducible refine (nm6_g1 w _ rfl HV.out).mono ?_); rintro x1 w1 ⟨rfl, b⟩; have B1 := Lib.hid (btS (belE_c _ _) b); clear b))
    | (go_at_call 10; ((with_reducible refine (nm6_g2 w1 _ rfl (HV.out.below B1.out)).mono ?_); rintro x2 w2 ⟨rfl, b⟩; have B2 := Lib.hid (btS (btS B1.out (belE_c _ _)) b); clear b))
    | (go_at_call 11; ((with_reducible refine (nm6_d1 w2 (HV.out.below B2.out)).mono ?_); rintro x3 w3 ⟨A3, c3, rfl, -, -, -, -, b⟩; have B3 := Lib.hid (btS B2.out b); clear b))
    | (go_at_call 11; ((with_reducible refine (nm6_d2 w3 (HV.out.below B3.out)).mono ?_); rintro x4 w4 ⟨A4, c4, rfl, b⟩; have B4 := Lib.hid (btS B3.out b); clear b))
    | (go_at_call 13; ((with_reducible refine (two_any w4).mono ?_); rintro x5 w5 ⟨rfl, b⟩; have B5 := Lib.hid (btS B4.out b); clear b))
    | (go_at_call 12; ((with_reducible refine (HF1.out w5 (HV.out.below B5.out)).mono ?_); rintro x6 w6 ⟨rfl, b⟩; have B6 := Lib.hid (btS B5.out b); clear b))
    | (go_at_call 13; ((with_reducible refine (two_any w6).mono ?_); rintro x7 w7 ⟨rfl, b⟩; have B7 := Lib.hid (btS B6.out b); clear b))
    | (go_at_call 12; ((with_reducible refine (HF2.out w7 (HV.out.below B7.out)).mono ?_); rintro x8 w8 ⟨rfl, b⟩; have B8 := Lib.hid (btS B7.out b); clear b))
    | (go_at_call 13; ((with_reducible refine (two_any w8).mono ?_); rintro x9 w9 ⟨rfl, b⟩; have B9 := Lib.hid (btS B8.out b); clear b))
    | (go_at_call 12; ((with_reducible refine (HF3.out w9 (HV.out.below B9.out)).mono ?_); rintro x10 w10 ⟨rfl, b⟩; have B10 := Lib.hid (btS B9.out b); clear b))
    | (go_at_call 13; ((with_reducible refine (two_any w10).mono ?_); rintro x11 w11 ⟨rfl, b⟩; have B11 := Lib.hid (btS B10.out b); clear b))
    | (go_at_call 12; ((with_reducible refine (HF4.out w11 (HV.out.below B11.out)).mono ?_); rintro x12 w12 ⟨rfl, b⟩; have B12 := Lib.hid (btS B11.out b); clear b))
    | (go_at_call 13; ((with_reducible refine (two_any w12).mono ?_); rintro x13 w13 ⟨rfl, b⟩; have B13 := Lib.hid (btS B12.out b); clear b))
    | (go_at_call 12; ((with_reducible refine (HF5.out w13 (HV.out.below B13.out)).mono ?_); rintro x14 w14 ⟨rfl, b⟩; have B14 := Lib.hid (btS B13.out b); clear b))
    | (go_at_call 13; ((with_reducible refine (two_any w14).mono ?_); rintro x15 w15 ⟨rfl, b⟩; have B15 := Lib.hid (btS B14.out b); clear b))
    | (go_at_call 14; ((with_reducible refine (nm6_p1 _ (HV.out.below (btS B15.out (belE_c _ _)))).mono ?_); rintro x16 w16 ⟨A16, c16, rfl, h16, -, -, -, b⟩; have B16 := Lib.hid (btS (btS B15.out (belE_c _ _)) b); have K16 := Lib.hid h16; clear b h16))
    | (go_at_call 14; ((with_reducible refine (nm6_p3 w16 _ rfl (HV.out.below (btS B16.out (belE_c _ _)))).mono ?_); rintro x17 w17 ⟨A17, c17, rfl, -, -, -, -, b⟩; have B17 := Lib.hid (btS (btS B16.out (belE_c _ _)) b); have K17 := Lib.hid (K16.out.below (btS (belE_c _ _) b)); clear b)))
  have hD0 : (w17.alloc (.cells #[.int .i64 5, .int .i64 5, .int .i64 1, .bool false, .bool false, .int .u8 0, .int .u8 0, .int .u8 0, .slice none 0 0, .int .i64 (-1), .int .i64 5, .int .i64 1, .bool false, .bool false, .int .u8 0, .int .u8 0, .int .u8 0, .slice none 0 0, .int .i64 1, .int .i64 100000, .int .i64 1, .bool false, .bool false, .int .u8 0, .int .u8 0, .int .u8 0, .slice none 0 0, .int .i64 1, .int .i64 5, .int .i64 0, .bool false, .bool false, .int .u8 0, .int .u8 0, .int .u8 0, .slice none 0 0, .int .i64 1, .int .i64 5, .int .i64 1201, .bool false, .bool false, .int .u8 0, .int .u8 0, .int .u8 0, .slice none 0 0, .int .i64 1, .int .i64 5, .int .i64 1, .bool false, .bool false, .int .u8 2, .int .u8 0, .int .u8 0, .slice none 0 0, .int .i64 1, .int .i64 5, .int .i64 1, .bool false, .bool false, .int .u8 0, .int .u8 5, .int .u8 0, .slice none 0 0, .int .i64 1, .int .i64 5, .int .i64 1, .bool false, .bool false, .int .u8 0, .int .u8 0, .int .u8 127, .slice none 0 0] 27)).heap[w17.heap.size]? = some (.cells #[.int .i64 5, .int .i64 5, .int .i64 1, .bool false, .bool false, .int .u8 0, .int .u8 0, .int .u8 0, .slice none 0 0, .int .i64 (-1), .int .i64 5, .int .i64 1, .bool false, .bool false, .int .u8 0, .int .u8 0, .int .u8 0, .slice none 0 0, .int .i64 1, .int .i64 100000, .int .i64 1, .bool false, .bool false, .int .u8 0, .int .u8 0, .int .u8 0, .slice none 0 0, .int .i64 1, .int .i64 5, .int .i64 0, .bool false, .bool false, .int .u8 0, .int .u8 0, .int .u8 0, .slice none 0 0, .int .i64 1, .int .i64 5, .int .i64 1201, .bool false, .bool false, .int .u8 0, .int .u8 0, .int .u8 0, .slice none 0 0, .int .i64 1, .int .i64 5, .int .i64 1, .bool false, .bool false, .int .u8 2, .int .u8 0, .int .u8 0, .slice none 0 0, .int .i64 1, .int .i64 5, .int .i64 1, .bool false, .bool false, .int .u8 0, .int .u8 5, .int .u8 0, .slice none 0 0, .int .i64 1, .int .i64 5, .int .i64 1, .bool false, .bool false, .int .u8 0, .int .u8 0, .int .u8 127, .slice none 0 0] 27 (0, 0)) := heap_alloc_new _ _
  obtain ⟨D, hDe⟩ : ∃ D, w17.heap.size = D := ⟨_, rfl⟩
  obtain ⟨W0, hW0⟩ : ∃ W0, w17.alloc (.cells #[.int .i64 5, .int .i64 5, .int .i64 1, .bool false, .bool false, .int .u8 0, .int .u8 0, .int .u8 0, .slice none 0 0, .int .i64 (-1), .int .i64 5, .int .i64 1, .bool false, .bool false, .int .u8 0, .int .u8 0, .int .u8 0, .slice none 0 0, .int .i64 1, .int .i64 100000, .int .i64 1, .bool false, .bool false, .int .u8 0, .int .u8 0, .int .u8 0, .slice none 0 0, .int .i64 1, .int .i64 5, .int .i64 0, .bool false, .bool false, .int .u8 0, .int .u8 0, .int .u8 0, .slice none 0 0, .int .i64 1, .int .i64 5, .int .i64 1201, .bool false, .bool false, .int .u8 0, .int .u8 0, .int .u8 0, .slice none 0 0, .int .i64 1, .int .i64 5, .int .i64 1, .bool false, .bool false, .int .u8 2, .int .u8 0, .int .u8 0, .slice none 0 0, .int .i64 1, .int .i64 5, .int .i64 1, .bool false, .bool false, .int .u8 0, .int .u8 5, .int .u8 0, .slice none 0 0, .int .i64 1, .int .i64 5, .int .i64 1, .bool false, .bool false, .int .u8 0, .int .u8 0, .int .u8 127, .slice none 0 0] 27) = W0 := ⟨_, rfl⟩
  have BW0 := Lib.hid (show Below w.heap.size w W0 by rw [← hW0]; exact btS B17.out (belE_c _ _))
  have KW0 := Lib.hid (show HsP W0 A16 nmP by rw [← hW0]; exact K17.out.below (belE_c _ _))
  rw [hW0] at hD0 ⊢
  rw [hDe] at hD0 ⊢
  have HD := Lib.hid hD0
  clear hW0 hDe hD0
  go_loopw [21, 95] (fun v i wr => ∃ k : Nat, k ≤ 8 ∧ v = .bool true ∧ i = .int .i64 k ∧ Hid (Below W0.heap.size W0 wr)) (fun _ i _ => 8 - (intOf i).toNat)
  case atStart => exact ⟨0, by omega, rfl, rfl, Below.refl _ _⟩
  case round =>
    obtain ⟨k, hk, rfl, rfl, BR⟩ := hrel
    have hD : wr.heap[D]? = some (.cells #[.int .i64 5, .int .i64 5, .int .i64 1, .bool false, .bool false, .int .u8 0, .int .u8 0, .int .u8 0, .slice none 0 0, .int .i64 (-1), .int .i64 5, .int .i64 1, .bool false, .bool false, .int .u8 0, .int .u8 0, .int .u8 0, .slice none 0 0, .int .i64 1, .int .i64 100000, .int .i64 1, .bool false, .bool false, .int .u8 0, .int .u8 0, .int .u8 0, .slice none 0 0, .int .i64 1, .int .i64 5, .int .i64 0, .bool false, .bool false, .int .u8 0, .int .u8 0, .int .u8 0, .slice none 0 0, .int .i64 1, .int .i64 5, .int .i64 1201, .bool false, .bool false, .int .u8 0, .int .u8 0, .int .u8 0, .slice none 0 0, .int .i64 1, .int .i64 5, .int .i64 1, .bool false, .bool false, .int .u8 2, .int .u8 0, .int .u8 0, .slice none 0 0, .int .i64 1, .int .i64 5, .int .i64 1, .bool false, .bool false, .int .u8 0, .int .u8 5, .int .u8 0, .slice none 0 0, .int .i64 1, .int .i64 5, .int .i64 1, .bool false, .bool false, .int .u8 0, .int .u8 0, .int .u8 127, .slice none 0 0] 27 (0, 0)) := (BR.out.block D (lt_of_block HD.out)).trans HD.out
    have hc : k = 0 ∨ k = 1 ∨ k = 2 ∨ k = 3 ∨ k = 4 ∨ k = 5 ∨ k = 6 ∨ k = 7 ∨ k = 8 := by omega
    rcases hc with rfl | rfl | rfl | rfl | rfl | rfl | rfl | rfl | rfl
    · have d0 : wr.cell? ⟨D, 0, none⟩ = some (.int .i64 5) := by unfold World.cell?; rw [hD]; rfl
      have d1 : wr.cell? ⟨D, 1, none⟩ = some (.int .i64 5) := by unfold World.cell?; rw [hD]; rfl
      have d2 : wr.cell? ⟨D, 2, none⟩ = some (.int .i64 1) := by unfold World.cell?; rw [hD]; rfl
      have d3 : wr.cell? ⟨D, 3, none⟩ = some (.bool false) := by unfold World.cell?; rw [hD]; rfl
      have d4 : wr.cell? ⟨D, 4, none⟩ = some (.bool false) := by unfold World.cell?; rw [hD]; rfl
      have d5 : wr.cell? ⟨D, 5, none⟩ = some (.int .u8 0) := by unfold World.cell?; rw [hD]; rfl
      have d6 : wr.cell? ⟨D, 6, none⟩ = some (.int .u8 0) := by unfold World.cell?; rw [hD]; rfl
      have d7 : wr.cell? ⟨D, 7, none⟩ = some (.int .u8 0) := by unfold World.cell?; rw [hD]; rfl
      have d8 : wr.cell? ⟨D, 8, none⟩ = some (.slice none 0 0) := by unfold World.cell?; rw [hD]; rfl
      clear hD
      go_wp2_with (go_at_call 15; ((with_reducible refine (HC0.out _).mono ?_); rintro x18 w18 ⟨rfl, b⟩; have BZ := Lib.hid (btS BR.out (btS (belE_c _ _) b)); clear b))
      go_roundw
      case rel => exact ⟨1, by omega, rfl, by first | rfl | go_num, BZ⟩
      case measure => first | (simp [intOf]; done) | (simp [intOf]; omega)
    · have d0 : wr.cell? ⟨D, 9, none⟩ = some (.int .i64 (-1)) := by unfold World.cell?; rw [hD]; rfl
      have d1 : wr.cell? ⟨D, 10, none⟩ = some (.int .i64 5) := by unfold World.cell?; rw [hD]; rfl
      have d2 : wr.cell? ⟨D, 11, none⟩ = some (.int .i64 1) := by unfold World.cell?; rw [hD]; rfl
      have d3 : wr.cell? ⟨D, 12, none⟩ = some (.bool false) := by unfold World.cell?; rw [hD]; rfl
      have d4 : wr.cell? ⟨D, 13, none⟩ = some (.bool false) := by unfold World.cell?; rw [hD]; rfl
      have d5 : wr.cell? ⟨D, 14, none⟩ = some (.int .u8 0) := by unfold World.cell?; rw [hD]; rfl
      have d6 : wr.cell? ⟨D, 15, none⟩ = some (.int .u8 0) := by unfold World.cell?; rw [hD]; rfl
      have d7 : wr.cell? ⟨D, 16, none⟩ = some (.int .u8 0) := by unfold World.cell?; rw [hD]; rfl
      have d8 : wr.cell? ⟨D, 17, none⟩ = some (.slice none 0 0) := by unfold World.cell?; rw [hD]; rfl
      clear hD
      go_wp2_with (go_at_call 15; ((with_reducible refine (HC1.out _).mono ?_); rintro x18 w18 ⟨rfl, b⟩; have BZ := Lib.hid (btS BR.out (btS (belE_c _ _) b)); clear b))
      go_roundw
      case rel => exact ⟨2, by omega, rfl, by first | rfl | go_num, BZ⟩
      case measure => first | (simp [intOf]; done) | (simp [intOf]; omega)
    · have d0 : wr.cell? ⟨D, 18, none⟩ = some (.int .i64 1) := by unfold World.cell?; rw [hD]; rfl
      have d1 : wr.cell? ⟨D, 19, none⟩ = some (.int .i64 100000) := by unfold World.cell?; rw [hD]; rfl
      have d2 : wr.cell? ⟨D, 20, none⟩ = some (.int .i64 1) := by unfold World.cell?; rw [hD]; rfl
      have d3 : wr.cell? ⟨D, 21, none⟩ = some (.bool false) := by unfold World.cell?; rw [hD]; rfl
      have d4 : wr.cell? ⟨D, 22, none⟩ = some (.bool false) := by unfold World.cell?; rw [hD]; rfl
      have d5 : wr.cell? ⟨D, 23, none⟩ = some (.int .u8 0) := by unfold World.cell?; rw [hD]; rfl
      have d6 : wr.cell? ⟨D, 24, none⟩ = some (.int .u8 0) := by unfold World.cell?; rw [hD]; rfl
      have d7 : wr.cell? ⟨D, 25, none⟩ = some (.int .u8 0) := by unfold World.cell?; rw [hD]; rfl
      have d8 : wr.cell? ⟨D, 26, none⟩ = some (.slice none 0 0) := by unfold World.cell?; rw [hD]; rfl
      clear hD
      go_wp2_with (go_at_call 15; ((with_reducible refine (HC2.out _).mono ?_); rintro x18 w18 ⟨rfl, b⟩; have BZ := Lib.hid (btS BR.out (btS (belE_c _ _) b)); clear b))
      go_roundw
      case rel => exact ⟨3, by omega, rfl, by first | rfl | go_num, BZ⟩
      case measure => first | (simp [intOf]; done) | (simp [intOf]; omega)
    · have d0 : wr.cell? ⟨D, 27, none⟩ = some (.int .i64 1) := by unfold World.cell?; rw [hD]; rfl
      have d1 : wr.cell? ⟨D, 28, none⟩ = some (.int .i64 5) := by unfold World.cell?; rw [hD]; rfl
      have d2 : wr.cell? ⟨D, 29, none⟩ = some (.int .i64 0) := by unfold World.cell?; rw [hD]; rfl
      have d3 : wr.cell? ⟨D, 30, none⟩ = some (.bool false) := by unfold World.cell?; rw [hD]; rfl
      have d4 : wr.cell? ⟨D, 31, none⟩ = some (.bool false) := by unfold World.cell?; rw [hD]; rfl
      have d5 : wr.cell? ⟨D, 32, none⟩ = some (.int .u8 0) := by unfold World.cell?; rw [hD]; rfl
      have d6 : wr.cell? ⟨D, 33, none⟩ = some (.int .u8 0) := by unfold World.cell?; rw [hD]; rfl
      have d7 : wr.cell? ⟨D, 34, none⟩ = some (.int .u8 0) := by unfold World.cell?; rw [hD]; rfl
      have d8 : wr.cell? ⟨D, 35, none⟩ = some (.slice none 0 0) := by unfold World.cell?; rw [hD]; rfl
      clear hD
      go_wp2_with (go_at_call 15; ((with_reducible refine (HC3.out _).mono ?_); rintro x18 w18 ⟨rfl, b⟩; have BZ := Lib.hid (btS BR.out (btS (belE_c _ _) b)); clear b))
      go_roundw
      case rel => exact ⟨4, by omega, rfl, by first | rfl | go_num, BZ⟩
      case measure => first | (simp [intOf]; done) | (simp [intOf]; omega)
    · have d0 : wr.cell? ⟨D, 36, none⟩ = some (.int .i64 1) := by unfold World.cell?; rw [hD]; rfl
      have d1 : wr.cell? ⟨D, 37, none⟩ = some (.int .i64 5) := by unfold World.cell?; rw [hD]; rfl
      have d2 : wr.cell? ⟨D, 38, none⟩ = some (.int .i64 1201) := by unfold World.cell?; rw [hD]; rfl
      have d3 : wr.cell? ⟨D, 39, none⟩ = some (.bool false) := by unfold World.cell?; rw [hD]; rfl
      have d4 : wr.cell? ⟨D, 40, none⟩ = some (.bool false) := by unfold World.cell?; rw [hD]; rfl
      have d5 : wr.cell? ⟨D, 41, none⟩ = some (.int .u8 0) := by unfold World.cell?; rw [hD]; rfl
      have d6 : wr.cell? ⟨D, 42, none⟩ = some (.int .u8 0) := by unfold World.cell?; rw [hD]; rfl
      have d7 : wr.cell? ⟨D, 43, none⟩ = some (.int .u8 0) := by unfold World.cell?; rw [hD]; rfl
      have d8 : wr.cell? ⟨D, 44, none⟩ = some (.slice none 0 0) := by unfold World.cell?; rw [hD]; rfl
      clear hD
      go_wp2_with (go_at_call 15; ((with_reducible refine (HC4.out _).mono ?_); rintro x18 w18 ⟨rfl, b⟩; have BZ := Lib.hid (btS BR.out (btS (belE_c _ _) b)); clear b))
      go_roundw
      case rel => exact ⟨5, by omega, rfl, by first | rfl | go_num, BZ⟩
      case measure => first | (simp [intOf]; done) | (simp [intOf]; omega)
    · have d0 : wr.cell? ⟨D, 45, none⟩ = some (.int .i64 1) := by unfold World.cell?; rw [hD]; rfl
      have d1 : wr.cell? ⟨D, 46, none⟩ = some (.int .i64 5) := by unfold World.cell?; rw [hD]; rfl
      have d2 : wr.cell? ⟨D, 47, none⟩ = some (.int .i64 1) := by unfold World.cell?; rw [hD]; rfl
      have d3 : wr.cell? ⟨D, 48, none⟩ = some (.bool false) := by unfold World.cell?; rw [hD]; rfl
      have d4 : wr.cell? ⟨D, 49, none⟩ = some (.bool false) := by unfold World.cell?; rw [hD]; rfl
      have d5 : wr.cell? ⟨D, 50, none⟩ = some (.int .u8 2) := by unfold World.cell?; rw [hD]; rfl
      have d6 : wr.cell? ⟨D, 51, none⟩ = some (.int .u8 0) := by unfold World.cell?; rw [hD]; rfl
      have d7 : wr.cell? ⟨D, 52, none⟩ = some (.int .u8 0) := by unfold World.cell?; rw [hD]; rfl
      have d8 : wr.cell? ⟨D, 53, none⟩ = some (.slice none 0 0) := by unfold World.cell?; rw [hD]; rfl
      clear hD
      go_wp2_with (go_at_call 15; ((with_reducible refine (HC5.out _).mono ?_); rintro x18 w18 ⟨rfl, b⟩; have BZ := Lib.hid (btS BR.out (btS (belE_c _ _) b)); clear b))
      go_roundw
      case rel => exact ⟨6, by omega, rfl, by first | rfl | go_num, BZ⟩
      case measure => first | (simp [intOf]; done) | (simp [intOf]; omega)
    · have d0 : wr.cell? ⟨D, 54, none⟩ = some (.int .i64 1) := by unfold World.cell?; rw [hD]; rfl
      have d1 : wr.cell? ⟨D, 55, none⟩ = some (.int .i64 5) := by unfold World.cell?; rw [hD]; rfl
      have d2 : wr.cell? ⟨D, 56, none⟩ = some (.int .i64 1) := by unfold World.cell?; rw [hD]; rfl
      have d3 : wr.cell? ⟨D, 57, none⟩ = some (.bool false) := by unfold World.cell?; rw [hD]; rfl
      have d4 : wr.cell? ⟨D, 58, none⟩ = some (.bool false) := by unfold World.cell?; rw [hD]; rfl
      have d5 : wr.cell? ⟨D, 59, none⟩ = some (.int .u8 0) := by unfold World.cell?; rw [hD]; rfl
      have d6 : wr.cell? ⟨D, 60, none⟩ = some (.int .u8 5) := by unfold World.cell?; rw [hD]; rfl
      have d7 : wr.cell? ⟨D, 61, none⟩ = some (.int .u8 0) := by unfold World.cell?; rw [hD]; rfl
      have d8 : wr.cell? ⟨D, 62, none⟩ = some (.slice none 0 0) := by unfold World.cell?; rw [hD]; rfl
      clear hD
      go_wp2_with (go_at_call 15; ((with_reducible refine (HC6.out _).mono ?_); rintro x18 w18 ⟨rfl, b⟩; have BZ := Lib.hid (btS BR.out (btS (belE_c _ _) b)); clear b))
      go_roundw
      case rel => exact ⟨7, by omega, rfl, by first | rfl | go_num, BZ⟩
      case measure => first | (simp [intOf]; done) | (simp [intOf]; omega)
    · have d0 : wr.cell? ⟨D, 63, none⟩ = some (.int .i64 1) := by unfold World.cell?; rw [hD]; rfl
      have d1 : wr.cell? ⟨D, 64, none⟩ = some (.int .i64 5) := by unfold World.cell?; rw [hD]; rfl
      have d2 : wr.cell? ⟨D, 65, none⟩ = some (.int .i64 1) := by unfold World.cell?; rw [hD]; rfl
      have d3 : wr.cell? ⟨D, 66, none⟩ = some (.bool false) := by unfold World.cell?; rw [hD]; rfl
      have d4 : wr.cell? ⟨D, 67, none⟩ = some (.bool false) := by unfold World.cell?; rw [hD]; rfl
      have d5 : wr.cell? ⟨D, 68, none⟩ = some (.int .u8 0) := by unfold World.cell?; rw [hD]; rfl
      have d6 : wr.cell? ⟨D, 69, none⟩ = some (.int .u8 0) := by unfold World.cell?; rw [hD]; rfl
      have d7 : wr.cell? ⟨D, 70, none⟩ = some (.int .u8 127) := by unfold World.cell?; rw [hD]; rfl
      have d8 : wr.cell? ⟨D, 71, none⟩ = some (.slice none 0 0) := by unfold World.cell?; rw [hD]; rfl
      clear hD
      go_wp2_with (go_at_call 15; ((with_reducible refine (HC7.out _).mono ?_); rintro x18 w18 ⟨rfl, b⟩; have BZ := Lib.hid (btS BR.out (btS (belE_c _ _) b)); clear b))
      go_roundw
      case rel => exact ⟨8, by omega, rfl, by first | rfl | go_num, BZ⟩
      case measure => first | (simp [intOf]; done) | (simp [intOf]; omega)
    · clear hD
      have BY := Lib.hid (btS BW0.out BR.out)
      have KY := Lib.hid (KW0.out.below BR.out)
      go_wp2_with (first
        | (go_at_call 16; ((with_reducible refine (same_nm A16 c16 wr _ rfl KY.out).mono ?_); rintro x19 w19 ⟨rfl, b⟩; have B19 := Lib.hid (btS (btS BY.out (belE_c _ _)) b); clear b))
        | (go_at_call 17; ((with_reducible refine (alive_any6 w19 (HV.out.below B19.out)).mono ?_); rintro x20 w20 ⟨rfl, b⟩; have B20 := Lib.hid (btS B19.out b); clear b)))
      go_ret
      exact ⟨ret_boolD (by simp), B20.out⟩
end Go.Proofs.YtfheeipggedaiaaDoor

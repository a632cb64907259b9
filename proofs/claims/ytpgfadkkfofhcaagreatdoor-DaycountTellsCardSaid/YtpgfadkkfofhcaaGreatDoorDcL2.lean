/- The walk of the law DaycountTells. -/
import Derived.Test.YtpgfadkkfofhcaaGreatDoorDcI
namespace Go.Proofs.YtpgfadkkfofhcaaGreatDoor
open Go Go.RowKit

set_option maxRecDepth 100000 in
set_option maxHeartbeats 1600000 in
theorem dtells_walk (r a b c : Int) (s : ByteArray) (w : World) (hv : VarF w)
    (H1 : ∀ W, VarF W → Calls Tryz.prog 9 #[.int .u8 r, .int .i64 a, .int .i64 b] W (StE s c W))
    (H2 : ∀ W, Calls Tryz.prog 13 #[.int .u8 r, .int .i64 a, .int .i64 b] W (StE s c W)) :
    Calls Tryz.prog 4 #[.int .u8 r, .int .i64 a, .int .i64 b] w fun e w' => e = .returned (.bool true) ∧ Below w.heap.size w w' := by
  have HV := Lib.hid hv
  have J1 := Lib.hid H1
  have J2 := Lib.hid H2
  clear hv H1 H2
  go_enter Tryz.func4, Tryz.ntmps4
  go_wp2_with (first
    | (go_at_call 9; ((with_reducible refine (J1.out _ HV.out).mono ?_); rintro e w1 ⟨rfl, b⟩; have B1 := Lib.hid b; clear b))
    | (go_at_call 13; ((with_reducible refine (J2.out _).mono ?_); rintro e w2 ⟨rfl, b⟩; have B2 := Lib.hid (btE B1.out b); clear b)))
  go_ret
  exact ⟨ret_boolD (by simp), B2.out⟩
theorem dtells_law (r a b : Int) (r0 : 0 ≤ r) (r2 : r ≤ 255) (w : World) (hv : VarF w) :
    Calls Tryz.prog 4 #[.int .u8 r, .int .i64 a, .int .i64 b] w fun e w' => e = .returned (.bool true) ∧ Below w.heap.size w w' := by
  by_cases h : r ≤ 4 ∧ 0 ≤ a ∧ a ≤ 99999 ∧ 0 ≤ b ∧ b ≤ 99999
  · obtain ⟨r4, a0, a1, b0, b1⟩ := h
    obtain ⟨y1, m1, d1, h1⟩ := isDate_of a a0
    obtain ⟨y2, m2, d2, h2⟩ := isDate_of b b0
    exact dtells_walk r a b 0 _ w hv (fun W hW => frac_in r y1 m1 d1 a y2 m2 d2 b _ r0 r4 h1 h2 a1 b1 rfl W hW) (fun W => reffrac_in r y1 m1 d1 a y2 m2 d2 b _ r0 r4 h1 h2 a1 b1 rfl W)
  · exact dtells_walk r a b 2 _ w hv (fun W hW => frac_out r a b r0 r2 (by omega) W hW) (fun W => reffrac_out r a b r0 r2 (by omega) W)
end Go.Proofs.YtpgfadkkfofhcaaGreatDoor

/- Layer 5: the program's walks: what Days answers. -/
import Derived.Test.YtpgfadkkfofhcaaGreatDoorDcC
namespace Go.Proofs.YtpgfadkkfofhcaaGreatDoor
open Go Go.RowKit

set_option maxRecDepth 100000 in
set_option maxHeartbeats 1600000 in
theorem days_rule (r n1 n2 : Int) (hr : 5 ≤ r) (r2 : r ≤ 255) (w : World) :
    Calls Tryz.prog 10 #[.int .u8 r, .int .i64 n1, .int .i64 n2] w (DysR 0 2 w) := by
  have HC := Lib.hid counts_any
  go_enter Tryz.func10, Tryz.ntmps10
  go_wp2_with (go_at_call 21; ((with_reducible refine (HC.out _).mono ?_); rintro e w1 ⟨q1, q2, rfl, b, -, -⟩; have B1 := Lib.hid (fun o => btE b (belE w1 o)); clear b))
  go_ret2
  exact ⟨rfl, B1.out _⟩
set_option maxRecDepth 100000 in
set_option maxHeartbeats 1600000 in
theorem days_err (r n1 n2 a1 y1 m1 d1 a2 y2 m2 d2 c1 c2 : Int) (r0 : 0 ≤ r) (hr : r ≤ 4) (hc : (if c1 = 0 then c2 else c1) = 2) (w : World) (hv : VarD w)
    (H1 : ∀ W, VarD W → Calls Tryz.prog 22 #[.int .i64 n1] W (PlcR a1 y1 m1 d1 c1 W))
    (H2 : ∀ W, VarD W → Calls Tryz.prog 22 #[.int .i64 n2] W (PlcR a2 y2 m2 d2 c2 W)) :
    Calls Tryz.prog 10 #[.int .u8 r, .int .i64 n1, .int .i64 n2] w (DysR 0 2 w) := by
  have HV := Lib.hid hv
  have J1 := Lib.hid H1
  have J2 := Lib.hid H2
  have HC := Lib.hid counts_any
  have HX := Lib.hid hc
  clear hv H1 H2 hc
  go_enter Tryz.func10, Tryz.ntmps10
  go_wp2_with (first
    | (go_at_call 21; ((with_reducible refine (HC.out _).mono ?_); rintro e w1 ⟨q1, q2, rfl, b, -, -⟩; have B1 := Lib.hid (fun o => btE b (belE w1 o)); clear b))
    | (go_at_call 22; ((with_reducible refine (J1.out _ (HV.out.below (B1.out _))).mono ?_); rintro e w2 ⟨rfl, b⟩; have B2 := Lib.hid (fun o => btE (btE (B1.out _) b) (belE w2 o)); clear b))
    | (go_at_call 22; ((with_reducible refine (J2.out _ (HV.out.below (B2.out _))).mono ?_); rintro e w3 ⟨rfl, b⟩; have B3 := Lib.hid (fun o => btE (btE (B2.out _) b) (belE w3 o)); have HO := Lib.hid (fun te => corE_new c1 c2 (w3.alloc (.cells #[.int .i64 a2, .int .i64 y2, .int .i64 m2, .int .i64 d2] 46)) te); rw [HX.out, World.size_alloc] at HO; clear b))
    | (go_at_call 23; ((with_reducible refine (HO.out _).mono ?_); rintro e w4 ⟨rfl, rfl⟩)))
  go_ret2
  exact ⟨rfl, btE (B3.out _) (belE _ _)⟩
theorem placeOf_any (n : Int) : ∃ a y m d c, (c = 0 ∨ c = 2) ∧ (n < 0 ∨ 99999 < n → c = 2) ∧ ∀ W, VarD W → Calls Tryz.prog 22 #[.int .i64 n] W (PlcR a y m d c W) := by
  by_cases h : 0 ≤ n ∧ n ≤ 99999
  · obtain ⟨y, m, d, hd⟩ := isDate_of n h.1
    exact ⟨n, y, m, d, 0, .inl rfl, fun _ => by omega, fun W hW => placeOf_in y m d n hd h.2 W hW⟩
  · exact ⟨0, 0, 0, 0, 2, .inr rfl, fun _ => rfl, fun W _ => placeOf_out n (by omega) W⟩
theorem days_out (r n1 n2 : Int) (r0 : 0 ≤ r) (r2 : r ≤ 255) (h : 4 < r ∨ n1 < 0 ∨ 99999 < n1 ∨ n2 < 0 ∨ 99999 < n2) (w : World) (hv : VarD w) :
    Calls Tryz.prog 10 #[.int .u8 r, .int .i64 n1, .int .i64 n2] w (DysR 0 2 w) := by
  by_cases hr : 5 ≤ r
  · exact days_rule r n1 n2 hr r2 w
  · obtain ⟨a1, y1, m1, d1, c1, k1, l1, H1⟩ := placeOf_any n1
    obtain ⟨a2, y2, m2, d2, c2, k2, l2, H2⟩ := placeOf_any n2
    refine days_err r n1 n2 a1 y1 m1 d1 a2 y2 m2 d2 c1 c2 r0 (by omega) ?_ w hv H1 H2
    rcases k1 with rfl | rfl
    · rw [if_pos rfl]
      rcases k2 with rfl | rfl
      · have := fun h => l1 h
        have := fun h => l2 h
        omega
      · rfl
    · rfl
/-- The days by a rule, from a date to a later one; and to any. -/
def fwd (r y1 m1 d1 n1 y2 m2 d2 n2 : Int) : Int := if r = 2 then thirty y1 m1 d1 y2 m2 d2 else if r = 4 then bond y1 m1 d1 y2 m2 d2 else n2 - n1
def dys (r y1 m1 d1 n1 y2 m2 d2 n2 : Int) : Int := if n2 < n1 then -fwd r y2 m2 d2 n2 y1 m1 d1 n1 else fwd r y1 m1 d1 n1 y2 m2 d2 n2
theorem fwd_bd {r y1 m1 d1 n1 y2 m2 d2 n2 : Int} (h1 : IsDate y1 m1 d1 n1) (h2 : IsDate y2 m2 d2 n2) (b1 : n1 ≤ 99999) (b2 : n2 ≤ 99999) : -100000 ≤ fwd r y1 m1 d1 n1 y2 m2 d2 n2 ∧ fwd r y1 m1 d1 n1 y2 m2 d2 n2 ≤ 100000 := by
  obtain ⟨p0, p1, p2, p3, p4, p5, p6⟩ := h1.bds b1
  obtain ⟨q0, q1, q2, q3, q4, q5, q6⟩ := h2.bds b2
  unfold fwd thirty thD bond
  split
  · omega
  · split
    · split <;> omega
    · omega
theorem dys_bd {r y1 m1 d1 n1 y2 m2 d2 n2 : Int} (h1 : IsDate y1 m1 d1 n1) (h2 : IsDate y2 m2 d2 n2) (b1 : n1 ≤ 99999) (b2 : n2 ≤ 99999) : -100000 ≤ dys r y1 m1 d1 n1 y2 m2 d2 n2 ∧ dys r y1 m1 d1 n1 y2 m2 d2 n2 ≤ 100000 := by
  have g1 := fwd_bd (r := r) h1 h2 b1 b2
  have g2 := fwd_bd (r := r) h2 h1 b2 b1
  unfold dys
  split <;> omega
theorem days_in (r y1 m1 d1 n1 y2 m2 d2 n2 v : Int) (r0 : 0 ≤ r) (r4 : r ≤ 4) (h1 : IsDate y1 m1 d1 n1) (h2 : IsDate y2 m2 d2 n2) (b1 : n1 ≤ 99999) (b2 : n2 ≤ 99999) (hd : dys r y1 m1 d1 n1 y2 m2 d2 n2 = v) (w : World) (hv : VarD w) :
    Calls Tryz.prog 10 #[.int .u8 r, .int .i64 n1, .int .i64 n2] w (DysR v 0 w) := by
  have H1 := fun W hW => placeOf_in y1 m1 d1 n1 h1 b1 W hW
  have H2 := fun W hW => placeOf_in y2 m2 d2 n2 h2 b2 W hW
  have g1 := fwd_bd (r := r) h1 h2 b1 b2
  have g2 := fwd_bd (r := r) h2 h1 b2 b1
  have hr : r = 0 ∨ r = 1 ∨ r = 2 ∨ r = 3 ∨ r = 4 := by omega
  by_cases hlt : n2 < n1
  · unfold dys at hd
    rw [if_pos hlt] at hd
    rcases hr with rfl | rfl | rfl | rfl | rfl
    · have e : fwd 0 y2 m2 d2 n2 y1 m1 d1 n1 = n1 - n2 := rfl
      rw [e] at g2 hd
      exact days_0_1 n1 y1 m1 d1 n2 y2 m2 d2 _ v hlt (by rw [IntWalk.i64_in _ (by omega)]; exact hd) w hv H1 H2 (fun W => actual_any _ _ _ _ _ _ _ _ _ h2.n0 b2 h1.n0 b1 rfl W)
    · have e : fwd 1 y2 m2 d2 n2 y1 m1 d1 n1 = n1 - n2 := rfl
      rw [e] at g2 hd
      exact days_1_1 n1 y1 m1 d1 n2 y2 m2 d2 _ v hlt (by rw [IntWalk.i64_in _ (by omega)]; exact hd) w hv H1 H2 (fun W => actual_any _ _ _ _ _ _ _ _ _ h2.n0 b2 h1.n0 b1 rfl W)
    · have e : fwd 2 y2 m2 d2 n2 y1 m1 d1 n1 = thirty y2 m2 d2 y1 m1 d1 := rfl
      rw [e] at g2 hd
      exact days_2_1 n1 y1 m1 d1 n2 y2 m2 d2 _ v hlt (by rw [IntWalk.i64_in _ (by omega)]; exact hd) w hv H1 H2 (fun q W hq => mon1_any h2 h1 b2 b1 q W hq)
    · have e : fwd 3 y2 m2 d2 n2 y1 m1 d1 n1 = n1 - n2 := rfl
      rw [e] at g2 hd
      exact days_3_1 n1 y1 m1 d1 n2 y2 m2 d2 _ v hlt (by rw [IntWalk.i64_in _ (by omega)]; exact hd) w hv H1 H2 (fun W => actual_any _ _ _ _ _ _ _ _ _ h2.n0 b2 h1.n0 b1 rfl W)
    · have e : fwd 4 y2 m2 d2 n2 y1 m1 d1 n1 = bond y2 m2 d2 y1 m1 d1 := rfl
      rw [e] at g2 hd
      exact days_4_1 n1 y1 m1 d1 n2 y2 m2 d2 _ v hlt (by rw [IntWalk.i64_in _ (by omega)]; exact hd) w hv H1 H2 (fun q W hq => mon2_any h2 h1 b2 b1 q W hq)
  · unfold dys at hd
    rw [if_neg hlt] at hd
    subst hd
    rcases hr with rfl | rfl | rfl | rfl | rfl
    · exact days_0_0 n1 y1 m1 d1 n2 y2 m2 d2 _ (by omega) w hv H1 H2 (fun W => actual_any _ _ _ _ _ _ _ _ _ h1.n0 b1 h2.n0 b2 rfl W)
    · exact days_1_0 n1 y1 m1 d1 n2 y2 m2 d2 _ (by omega) w hv H1 H2 (fun W => actual_any _ _ _ _ _ _ _ _ _ h1.n0 b1 h2.n0 b2 rfl W)
    · exact days_2_0 n1 y1 m1 d1 n2 y2 m2 d2 _ (by omega) w hv H1 H2 (fun q W hq => mon1_any h1 h2 b1 b2 q W hq)
    · exact days_3_0 n1 y1 m1 d1 n2 y2 m2 d2 _ (by omega) w hv H1 H2 (fun W => actual_any _ _ _ _ _ _ _ _ _ h1.n0 b1 h2.n0 b2 rfl W)
    · exact days_4_0 n1 y1 m1 d1 n2 y2 m2 d2 _ (by omega) w hv H1 H2 (fun q W hq => mon2_any h1 h2 b1 b2 q W hq)
end Go.Proofs.YtpgfadkkfofhcaaGreatDoor

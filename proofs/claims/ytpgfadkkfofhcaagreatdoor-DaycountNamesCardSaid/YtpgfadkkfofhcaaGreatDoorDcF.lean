/- Layer 5: the reference's walks: Days. -/
import Derived.Test.YtpgfadkkfofhcaaGreatDoorDcE
namespace Go.Proofs.YtpgfadkkfofhcaaGreatDoor
open Go Go.RowKit

theorem date_le {y1 m1 d1 n1 y2 m2 d2 n2 : Int} (h1 : IsDate y1 m1 d1 n1) (h2 : IsDate y2 m2 d2 n2) (h : n1 ≤ n2) : y1 ≤ y2 := by
  have := h2.lex h1
  omega
theorem refThirty_f {y1 m1 d1 n1 y2 m2 d2 n2 : Int} (h1 : IsDate y1 m1 d1 n1) (h2 : IsDate y2 m2 d2 n2) (b1 : n1 ≤ 99999) (b2 : n2 ≤ 99999) (h : n1 ≤ n2) (w : World) :
    Calls Tryz.prog 45 #[.int .i64 n1, .int .i64 n2, .bool false] w (IntW (thirty y1 m1 d1 y2 m2 d2) w) := by
  obtain ⟨p0, p1, p2, p3, p4, p5, -⟩ := h1.bds b1
  obtain ⟨q0, q1, q2, q3, q4, q5, -⟩ := h2.bds b2
  refine refThirty_walk n1 y1 m1 d1 n2 y2 m2 d2 (min d2 30 - min d1 30) _ false h1 h2 b1 b2 (date_le h1 h2 h) ?_ ?_ w
  · unfold thirty thD; omega
  · simp; omega
theorem refThirty_t {y1 m1 d1 n1 y2 m2 d2 n2 : Int} (h1 : IsDate y1 m1 d1 n1) (h2 : IsDate y2 m2 d2 n2) (b1 : n1 ≤ 99999) (b2 : n2 ≤ 99999) (h : n1 ≤ n2) (w : World) :
    Calls Tryz.prog 45 #[.int .i64 n1, .int .i64 n2, .bool true] w (IntW (bond y1 m1 d1 y2 m2 d2) w) := by
  obtain ⟨p0, p1, p2, p3, p4, p5, -⟩ := h1.bds b1
  obtain ⟨q0, q1, q2, q3, q4, q5, -⟩ := h2.bds b2
  refine refThirty_walk n1 y1 m1 d1 n2 y2 m2 d2 ((if min d1 30 < 30 then d2 else min d2 30) - min d1 30) _ true h1 h2 b1 b2 (date_le h1 h2 h) ?_ ?_ w
  · unfold bond; omega
  · simp; split <;> omega
def DysW (v c : Int) (w : World) (e : Ending) (w' : World) : Prop := e = .returned (.tuple #[.int .i64 v, .int .i64 c]) ∧ w = w'
set_option maxRecDepth 100000 in
set_option maxHeartbeats 1600000 in
theorem refDays_out (r n1 n2 : Int) (r0 : 0 ≤ r) (r2 : r ≤ 255) (h : 4 < r ∨ n1 < 0 ∨ 99999 < n1 ∨ n2 < 0 ∨ 99999 < n2) (w : World) :
    Calls Tryz.prog 24 #[.int .u8 r, .int .i64 n1, .int .i64 n2] w (DysW 0 2 w) := by
  obtain ⟨x, hx⟩ : ∃ x, (0 ≤ n1 ∧ n1 ≤ 99999) ↔ x = true := ⟨decide (0 ≤ n1 ∧ n1 ≤ 99999), by simp⟩
  obtain ⟨y, hy⟩ : ∃ y, (0 ≤ n2 ∧ n2 ≤ 99999) ↔ y = true := ⟨decide (0 ≤ n2 ∧ n2 ≤ 99999), by simp⟩
  have HD := Lib.hid (day_any n1 x hx)
  have HE := Lib.hid (day_any n2 y hy)
  have hc : 4 < r ∨ (r ≤ 4 ∧ x = false) ∨ (r ≤ 4 ∧ x = true ∧ y = false) := by
    cases x <;> cases y <;> simp at hx hy ⊢ <;> omega
  clear h hx hy
  rcases hc with h | ⟨h, rfl⟩ | ⟨h, rfl, rfl⟩
  all_goals
    go_enter Tryz.func24, Tryz.ntmps24
    go_wp2_with (first
      | (go_at_call 44; ((with_reducible refine (HD.out _).mono ?_); rintro e w' ⟨rfl, rfl⟩))
      | (go_at_call 44; ((with_reducible refine (HE.out _).mono ?_); rintro e w' ⟨rfl, rfl⟩)))
    go_ret2
    exact ⟨rfl, rfl⟩
theorem ret_dysE {a b : Int} (h : a = b) : Ending.returned (.tuple #[.int .i64 a, .int .i64 0]) = .returned (.tuple #[.int .i64 b, .int .i64 0]) := by rw [h]

set_option maxRecDepth 100000 in
set_option maxHeartbeats 1600000 in
theorem refDays_0_0 (n1 n2 v : Int) (a0 : 0 ≤ n1) (a1 : n1 ≤ 99999) (c0 : 0 ≤ n2) (c1 : n2 ≤ 99999) (hlt : n1 ≤ n2) (HV : Hid (n2 - n1 = v)) (w : World) :
    Calls Tryz.prog 24 #[.int .u8 0, .int .i64 n1, .int .i64 n2] w (DysW v 0 w) := by
  have HD := Lib.hid (day_any n1 true (by simp; omega))
  have HE := Lib.hid (day_any n2 true (by simp; omega))
  go_enter Tryz.func24, Tryz.ntmps24
  go_wp2_with (first
      | (go_at_call 44; ((with_reducible refine (HD.out _).mono ?_); rintro e w' ⟨rfl, rfl⟩))
      | (go_at_call 44; ((with_reducible refine (HE.out _).mono ?_); rintro e w' ⟨rfl, rfl⟩)))
  go_ret2
  exact ⟨ret_dysE (by have := HV.out; omega), rfl⟩

set_option maxRecDepth 100000 in
set_option maxHeartbeats 1600000 in
theorem refDays_0_1 (n1 n2 v : Int) (a0 : 0 ≤ n1) (a1 : n1 ≤ 99999) (c0 : 0 ≤ n2) (c1 : n2 ≤ 99999) (hlt : n2 < n1) (HV : Hid (n1 - n2 = v)) (w : World) :
    Calls Tryz.prog 24 #[.int .u8 0, .int .i64 n1, .int .i64 n2] w (DysW (-v) 0 w) := by
  have HD := Lib.hid (day_any n1 true (by simp; omega))
  have HE := Lib.hid (day_any n2 true (by simp; omega))
  go_enter Tryz.func24, Tryz.ntmps24
  go_wp2_with (first
      | (go_at_call 44; ((with_reducible refine (HD.out _).mono ?_); rintro e w' ⟨rfl, rfl⟩))
      | (go_at_call 44; ((with_reducible refine (HE.out _).mono ?_); rintro e w' ⟨rfl, rfl⟩)))
  go_ret2
  exact ⟨ret_dysE (by have := HV.out; omega), rfl⟩

set_option maxRecDepth 100000 in
set_option maxHeartbeats 1600000 in
theorem refDays_1_0 (n1 n2 v : Int) (a0 : 0 ≤ n1) (a1 : n1 ≤ 99999) (c0 : 0 ≤ n2) (c1 : n2 ≤ 99999) (hlt : n1 ≤ n2) (HV : Hid (n2 - n1 = v)) (w : World) :
    Calls Tryz.prog 24 #[.int .u8 1, .int .i64 n1, .int .i64 n2] w (DysW v 0 w) := by
  have HD := Lib.hid (day_any n1 true (by simp; omega))
  have HE := Lib.hid (day_any n2 true (by simp; omega))
  go_enter Tryz.func24, Tryz.ntmps24
  go_wp2_with (first
      | (go_at_call 44; ((with_reducible refine (HD.out _).mono ?_); rintro e w' ⟨rfl, rfl⟩))
      | (go_at_call 44; ((with_reducible refine (HE.out _).mono ?_); rintro e w' ⟨rfl, rfl⟩)))
  go_ret2
  exact ⟨ret_dysE (by have := HV.out; omega), rfl⟩

set_option maxRecDepth 100000 in
set_option maxHeartbeats 1600000 in
theorem refDays_1_1 (n1 n2 v : Int) (a0 : 0 ≤ n1) (a1 : n1 ≤ 99999) (c0 : 0 ≤ n2) (c1 : n2 ≤ 99999) (hlt : n2 < n1) (HV : Hid (n1 - n2 = v)) (w : World) :
    Calls Tryz.prog 24 #[.int .u8 1, .int .i64 n1, .int .i64 n2] w (DysW (-v) 0 w) := by
  have HD := Lib.hid (day_any n1 true (by simp; omega))
  have HE := Lib.hid (day_any n2 true (by simp; omega))
  go_enter Tryz.func24, Tryz.ntmps24
  go_wp2_with (first
      | (go_at_call 44; ((with_reducible refine (HD.out _).mono ?_); rintro e w' ⟨rfl, rfl⟩))
      | (go_at_call 44; ((with_reducible refine (HE.out _).mono ?_); rintro e w' ⟨rfl, rfl⟩)))
  go_ret2
  exact ⟨ret_dysE (by have := HV.out; omega), rfl⟩

set_option maxRecDepth 100000 in
set_option maxHeartbeats 1600000 in
theorem refDays_2_0 (n1 n2 v : Int) (a0 : 0 ≤ n1) (a1 : n1 ≤ 99999) (c0 : 0 ≤ n2) (c1 : n2 ≤ 99999) (hlt : n1 ≤ n2) (v0 : -100000 ≤ v) (v1 : v ≤ 100000) (w : World)
    (H : ∀ W, Calls Tryz.prog 45 #[.int .i64 n1, .int .i64 n2, .bool false] W (IntW v W)) :
    Calls Tryz.prog 24 #[.int .u8 2, .int .i64 n1, .int .i64 n2] w (DysW v 0 w) := by
  have HD := Lib.hid (day_any n1 true (by simp; omega))
  have HE := Lib.hid (day_any n2 true (by simp; omega))
  have J := Lib.hid H
  clear H
  go_enter Tryz.func24, Tryz.ntmps24
  go_wp2_with (first
      | (go_at_call 44; ((with_reducible refine (HD.out _).mono ?_); rintro e w' ⟨rfl, rfl⟩))
      | (go_at_call 44; ((with_reducible refine (HE.out _).mono ?_); rintro e w' ⟨rfl, rfl⟩))
      | (go_at_call 45; ((with_reducible refine (J.out _).mono ?_); rintro e w' ⟨rfl, rfl⟩)))
  go_ret2
  exact ⟨ret_dysE (by omega), rfl⟩

set_option maxRecDepth 100000 in
set_option maxHeartbeats 1600000 in
theorem refDays_2_1 (n1 n2 v : Int) (a0 : 0 ≤ n1) (a1 : n1 ≤ 99999) (c0 : 0 ≤ n2) (c1 : n2 ≤ 99999) (hlt : n2 < n1) (v0 : -100000 ≤ v) (v1 : v ≤ 100000) (w : World)
    (H : ∀ W, Calls Tryz.prog 45 #[.int .i64 n2, .int .i64 n1, .bool false] W (IntW v W)) :
    Calls Tryz.prog 24 #[.int .u8 2, .int .i64 n1, .int .i64 n2] w (DysW (-v) 0 w) := by
  have HD := Lib.hid (day_any n1 true (by simp; omega))
  have HE := Lib.hid (day_any n2 true (by simp; omega))
  have J := Lib.hid H
  clear H
  go_enter Tryz.func24, Tryz.ntmps24
  go_wp2_with (first
      | (go_at_call 44; ((with_reducible refine (HD.out _).mono ?_); rintro e w' ⟨rfl, rfl⟩))
      | (go_at_call 44; ((with_reducible refine (HE.out _).mono ?_); rintro e w' ⟨rfl, rfl⟩))
      | (go_at_call 45; ((with_reducible refine (J.out _).mono ?_); rintro e w' ⟨rfl, rfl⟩)))
  go_ret2
  exact ⟨ret_dysE (by omega), rfl⟩

set_option maxRecDepth 100000 in
set_option maxHeartbeats 1600000 in
theorem refDays_3_0 (n1 n2 v : Int) (a0 : 0 ≤ n1) (a1 : n1 ≤ 99999) (c0 : 0 ≤ n2) (c1 : n2 ≤ 99999) (hlt : n1 ≤ n2) (HV : Hid (n2 - n1 = v)) (w : World) :
    Calls Tryz.prog 24 #[.int .u8 3, .int .i64 n1, .int .i64 n2] w (DysW v 0 w) := by
  have HD := Lib.hid (day_any n1 true (by simp; omega))
  have HE := Lib.hid (day_any n2 true (by simp; omega))
  go_enter Tryz.func24, Tryz.ntmps24
  go_wp2_with (first
      | (go_at_call 44; ((with_reducible refine (HD.out _).mono ?_); rintro e w' ⟨rfl, rfl⟩))
      | (go_at_call 44; ((with_reducible refine (HE.out _).mono ?_); rintro e w' ⟨rfl, rfl⟩)))
  go_ret2
  exact ⟨ret_dysE (by have := HV.out; omega), rfl⟩

set_option maxRecDepth 100000 in
set_option maxHeartbeats 1600000 in
theorem refDays_3_1 (n1 n2 v : Int) (a0 : 0 ≤ n1) (a1 : n1 ≤ 99999) (c0 : 0 ≤ n2) (c1 : n2 ≤ 99999) (hlt : n2 < n1) (HV : Hid (n1 - n2 = v)) (w : World) :
    Calls Tryz.prog 24 #[.int .u8 3, .int .i64 n1, .int .i64 n2] w (DysW (-v) 0 w) := by
  have HD := Lib.hid (day_any n1 true (by simp; omega))
  have HE := Lib.hid (day_any n2 true (by simp; omega))
  go_enter Tryz.func24, Tryz.ntmps24
  go_wp2_with (first
      | (go_at_call 44; ((with_reducible refine (HD.out _).mono ?_); rintro e w' ⟨rfl, rfl⟩))
      | (go_at_call 44; ((with_reducible refine (HE.out _).mono ?_); rintro e w' ⟨rfl, rfl⟩)))
  go_ret2
  exact ⟨ret_dysE (by have := HV.out; omega), rfl⟩

set_option maxRecDepth 100000 in
set_option maxHeartbeats 1600000 in
theorem refDays_4_0 (n1 n2 v : Int) (a0 : 0 ≤ n1) (a1 : n1 ≤ 99999) (c0 : 0 ≤ n2) (c1 : n2 ≤ 99999) (hlt : n1 ≤ n2) (v0 : -100000 ≤ v) (v1 : v ≤ 100000) (w : World)
    (H : ∀ W, Calls Tryz.prog 45 #[.int .i64 n1, .int .i64 n2, .bool true] W (IntW v W)) :
    Calls Tryz.prog 24 #[.int .u8 4, .int .i64 n1, .int .i64 n2] w (DysW v 0 w) := by
  have HD := Lib.hid (day_any n1 true (by simp; omega))
  have HE := Lib.hid (day_any n2 true (by simp; omega))
  have J := Lib.hid H
  clear H
  go_enter Tryz.func24, Tryz.ntmps24
  go_wp2_with (first
      | (go_at_call 44; ((with_reducible refine (HD.out _).mono ?_); rintro e w' ⟨rfl, rfl⟩))
      | (go_at_call 44; ((with_reducible refine (HE.out _).mono ?_); rintro e w' ⟨rfl, rfl⟩))
      | (go_at_call 45; ((with_reducible refine (J.out _).mono ?_); rintro e w' ⟨rfl, rfl⟩)))
  go_ret2
  exact ⟨ret_dysE (by omega), rfl⟩

set_option maxRecDepth 100000 in
set_option maxHeartbeats 1600000 in
theorem refDays_4_1 (n1 n2 v : Int) (a0 : 0 ≤ n1) (a1 : n1 ≤ 99999) (c0 : 0 ≤ n2) (c1 : n2 ≤ 99999) (hlt : n2 < n1) (v0 : -100000 ≤ v) (v1 : v ≤ 100000) (w : World)
    (H : ∀ W, Calls Tryz.prog 45 #[.int .i64 n2, .int .i64 n1, .bool true] W (IntW v W)) :
    Calls Tryz.prog 24 #[.int .u8 4, .int .i64 n1, .int .i64 n2] w (DysW (-v) 0 w) := by
  have HD := Lib.hid (day_any n1 true (by simp; omega))
  have HE := Lib.hid (day_any n2 true (by simp; omega))
  have J := Lib.hid H
  clear H
  go_enter Tryz.func24, Tryz.ntmps24
  go_wp2_with (first
      | (go_at_call 44; ((with_reducible refine (HD.out _).mono ?_); rintro e w' ⟨rfl, rfl⟩))
      | (go_at_call 44; ((with_reducible refine (HE.out _).mono ?_); rintro e w' ⟨rfl, rfl⟩))
      | (go_at_call 45; ((with_reducible refine (J.out _).mono ?_); rintro e w' ⟨rfl, rfl⟩)))
  go_ret2
  exact ⟨ret_dysE (by omega), rfl⟩

theorem refDays_in (r y1 m1 d1 n1 y2 m2 d2 n2 v : Int) (r0 : 0 ≤ r) (r4 : r ≤ 4) (h1 : IsDate y1 m1 d1 n1) (h2 : IsDate y2 m2 d2 n2) (b1 : n1 ≤ 99999) (b2 : n2 ≤ 99999) (hd : dys r y1 m1 d1 n1 y2 m2 d2 n2 = v) (w : World) :
    Calls Tryz.prog 24 #[.int .u8 r, .int .i64 n1, .int .i64 n2] w (DysW v 0 w) := by
  have g1 := fwd_bd (r := r) h1 h2 b1 b2
  have g2 := fwd_bd (r := r) h2 h1 b2 b1
  have hr : r = 0 ∨ r = 1 ∨ r = 2 ∨ r = 3 ∨ r = 4 := by omega
  by_cases hlt : n2 < n1
  · unfold dys at hd
    rw [if_pos hlt] at hd
    subst hd
    rcases hr with rfl | rfl | rfl | rfl | rfl
    · exact refDays_0_1 n1 n2 _ h1.n0 b1 h2.n0 b2 hlt (Lib.hid rfl) w
    · exact refDays_1_1 n1 n2 _ h1.n0 b1 h2.n0 b2 hlt (Lib.hid rfl) w
    · exact refDays_2_1 n1 n2 _ h1.n0 b1 h2.n0 b2 hlt g2.1 g2.2 w (fun W => refThirty_f h2 h1 b2 b1 (by omega) W)
    · exact refDays_3_1 n1 n2 _ h1.n0 b1 h2.n0 b2 hlt (Lib.hid rfl) w
    · exact refDays_4_1 n1 n2 _ h1.n0 b1 h2.n0 b2 hlt g2.1 g2.2 w (fun W => refThirty_t h2 h1 b2 b1 (by omega) W)
  · unfold dys at hd
    rw [if_neg hlt] at hd
    subst hd
    rcases hr with rfl | rfl | rfl | rfl | rfl
    · exact refDays_0_0 n1 n2 _ h1.n0 b1 h2.n0 b2 (by omega) (Lib.hid rfl) w
    · exact refDays_1_0 n1 n2 _ h1.n0 b1 h2.n0 b2 (by omega) (Lib.hid rfl) w
    · exact refDays_2_0 n1 n2 _ h1.n0 b1 h2.n0 b2 (by omega) g1.1 g1.2 w (fun W => refThirty_f h1 h2 b1 b2 (by omega) W)
    · exact refDays_3_0 n1 n2 _ h1.n0 b1 h2.n0 b2 (by omega) (Lib.hid rfl) w
    · exact refDays_4_0 n1 n2 _ h1.n0 b1 h2.n0 b2 (by omega) g1.1 g1.2 w (fun W => refThirty_t h1 h2 b1 b2 (by omega) W)
end Go.Proofs.YtpgfadkkfofhcaaGreatDoor

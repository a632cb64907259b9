/- Layer 5: the program's walks: the rules' functions. -/
import Derived.Test.YtpgfadkkfofhcaaGreatDoorDcA
import Derived.IntWalk
namespace Go.Proofs.YtpgfadkkfofhcaaGreatDoor
open Go Go.RowKit

def IntW (v : Int) (w : World) (e : Ending) (w' : World) : Prop := e = .returned (.int .i64 v) ∧ w = w'
def IntE (v : Int) (w : World) (e : Ending) (w' : World) : Prop := e = .returned (.int .i64 v) ∧ Below w.heap.size w w'
theorem belowE_dn {B : Nat} {a w : World} (h : Below B a w) (n : Nat) : Below B a (w.drewN n) := ⟨h.os, h.tape, h.output, h.size, h.block⟩
theorem quietE {P : Program} {f : FuncId} {args : Array Value} {w : World} {n : Nat} {c : Int}
    (h : Calls P f args (w.drewN n) (IntW c (w.drewN n))) : Calls P f args (w.drewN n) fun e w'' => e = .returned (.int .i64 c) ∧ ∃ m, w'' = w.drewN m :=
  h.mono fun _ _ ⟨he, hm⟩ => ⟨he, n, hm.symm⟩
theorem cntd1_any (b e v : Int) (hv : min e 30 = v) (w : World) : Calls Tryz.prog 42 #[.int .i64 b, .int .i64 e] w (IntW v w) := by
  by_cases h : e ≤ 30
  · obtain rfl : e = v := by omega
    clear hv
    go_enter Tryz.func42, Tryz.ntmps42
    go_wp2
    go_ret
    exact ⟨rfl, rfl⟩
  · obtain rfl : 30 = v := by omega
    clear hv
    go_enter Tryz.func42, Tryz.ntmps42
    go_wp2
    go_ret
    exact ⟨rfl, rfl⟩
theorem cntd2_any (b e v : Int) (hv : (if b < 30 then e else min e 30) = v) (w : World) : Calls Tryz.prog 43 #[.int .i64 b, .int .i64 e] w (IntW v w) := by
  by_cases hb : b < 30
  · rw [if_pos hb] at hv
    subst hv
    go_enter Tryz.func43, Tryz.ntmps43
    go_wp2
    go_ret
    exact ⟨rfl, rfl⟩
  · rw [if_neg hb] at hv
    by_cases h : e ≤ 30
    · obtain rfl : e = v := by omega
      clear hv
      go_enter Tryz.func43, Tryz.ntmps43
      go_wp2
      go_ret
      exact ⟨rfl, rfl⟩
    · obtain rfl : 30 = v := by omega
      clear hv
      go_enter Tryz.func43, Tryz.ntmps43
      go_wp2
      go_ret
      exact ⟨rfl, rfl⟩
set_option maxHeartbeats 800000 in
theorem actual_any (n1 y1 m1 d1 n2 y2 m2 d2 v : Int) (a0 : 0 ≤ n1) (a1 : n1 ≤ 99999) (c0 : 0 ≤ n2) (c1 : n2 ≤ 99999) (hv : n2 - n1 = v) (w : World) :
    Calls Tryz.prog 40 #[.agg #[.int .i64 n1, .int .i64 y1, .int .i64 m1, .int .i64 d1], .agg #[.int .i64 n2, .int .i64 y2, .int .i64 m2, .int .i64 d2]] w (IntE v w) := by
  have HB := Lib.hid (fun o o' => btE (belE w o) (belE (w.alloc o) o'))
  subst hv
  go_enter Tryz.func40, Tryz.ntmps40
  go_wp2
  go_ret
  exact ⟨rfl, HB.out _ _⟩
set_option maxRecDepth 100000 in
set_option maxHeartbeats 1600000 in
theorem mon1_walk (n1 y1 m1 d1 n2 y2 m2 d2 b c dy ay dm am s t r : Int) (q : Nat) (hmin : (d1 ≤ 30 ∧ d1 = b) ∨ (30 < d1 ∧ 30 = b)) (w : World) (hq : w.cell? ⟨q, 0, none⟩ = some (.func (.func 42) #[] #[]))
    (e1 : IntKind.i64.wrap (y2 - y1) = dy) (e2 : IntKind.i64.wrap (360 * dy) = ay) (e3 : IntKind.i64.wrap (m2 - m1) = dm) (e4 : IntKind.i64.wrap (30 * dm) = am) (e5 : IntKind.i64.wrap (ay + am) = s) (e6 : IntKind.i64.wrap (s + c) = t) (e7 : IntKind.i64.wrap (t - b) = r)
    (H : ∀ W, Calls Tryz.prog 42 #[.int .i64 b, .int .i64 d2] W (IntW c W)) :
    Calls Tryz.prog 63 #[.agg #[.int .i64 n1, .int .i64 y1, .int .i64 m1, .int .i64 d1], .agg #[.int .i64 n2, .int .i64 y2, .int .i64 m2, .int .i64 d2], .pointer (some ⟨q, 0, none⟩)] w (IntE r w) := by
  have HB := Lib.hid (fun o o' => btE (belE w o) (belE (w.alloc o) o'))
  have Q1 := Lib.hid (fun n => quietE (H ((((w.alloc (.cells #[.int .i64 n1, .int .i64 y1, .int .i64 m1, .int .i64 d1] 46)).alloc (.cells #[.int .i64 n2, .int .i64 y2, .int .i64 m2, .int .i64 d2] 46))).drewN n)))
  have k0 : ((w.alloc (.cells #[.int .i64 n1, .int .i64 y1, .int .i64 m1, .int .i64 d1] 46)).alloc (.cells #[.int .i64 n2, .int .i64 y2, .int .i64 m2, .int .i64 d2] 46)).cell? ⟨q, 0, none⟩ = some (.func (.func 42) #[] #[]) := cellE (belE _ _) (cellE (belE _ _) hq)
  clear hq H
  rcases hmin with ⟨h, rfl⟩ | ⟨h, rfl⟩
  · go_enter Tryz.func63, Tryz.ntmps63
    go_wp2
    go_quiet ((go_at_call 42; with_reducible exact Q1.out _))
    go_wp2
    go_ret
    exact ⟨rfl, belowE_dn (HB.out _ _) _⟩
  · go_enter Tryz.func63, Tryz.ntmps63
    go_wp2
    go_quiet ((go_at_call 42; with_reducible exact Q1.out _))
    go_wp2
    go_ret
    exact ⟨rfl, belowE_dn (HB.out _ _) _⟩
set_option maxRecDepth 100000 in
set_option maxHeartbeats 1600000 in
theorem mon2_walk (n1 y1 m1 d1 n2 y2 m2 d2 b c dy ay dm am s t r : Int) (q : Nat) (hmin : (d1 ≤ 30 ∧ d1 = b) ∨ (30 < d1 ∧ 30 = b)) (w : World) (hq : w.cell? ⟨q, 0, none⟩ = some (.func (.func 43) #[] #[]))
    (e1 : IntKind.i64.wrap (y2 - y1) = dy) (e2 : IntKind.i64.wrap (360 * dy) = ay) (e3 : IntKind.i64.wrap (m2 - m1) = dm) (e4 : IntKind.i64.wrap (30 * dm) = am) (e5 : IntKind.i64.wrap (ay + am) = s) (e6 : IntKind.i64.wrap (s + c) = t) (e7 : IntKind.i64.wrap (t - b) = r)
    (H : ∀ W, Calls Tryz.prog 43 #[.int .i64 b, .int .i64 d2] W (IntW c W)) :
    Calls Tryz.prog 63 #[.agg #[.int .i64 n1, .int .i64 y1, .int .i64 m1, .int .i64 d1], .agg #[.int .i64 n2, .int .i64 y2, .int .i64 m2, .int .i64 d2], .pointer (some ⟨q, 0, none⟩)] w (IntE r w) := by
  have HB := Lib.hid (fun o o' => btE (belE w o) (belE (w.alloc o) o'))
  have Q1 := Lib.hid (fun n => quietE (H ((((w.alloc (.cells #[.int .i64 n1, .int .i64 y1, .int .i64 m1, .int .i64 d1] 46)).alloc (.cells #[.int .i64 n2, .int .i64 y2, .int .i64 m2, .int .i64 d2] 46))).drewN n)))
  have k0 : ((w.alloc (.cells #[.int .i64 n1, .int .i64 y1, .int .i64 m1, .int .i64 d1] 46)).alloc (.cells #[.int .i64 n2, .int .i64 y2, .int .i64 m2, .int .i64 d2] 46)).cell? ⟨q, 0, none⟩ = some (.func (.func 43) #[] #[]) := cellE (belE _ _) (cellE (belE _ _) hq)
  clear hq H
  rcases hmin with ⟨h, rfl⟩ | ⟨h, rfl⟩
  · go_enter Tryz.func63, Tryz.ntmps63
    go_wp2
    go_quiet ((go_at_call 43; with_reducible exact Q1.out _))
    go_wp2
    go_ret
    exact ⟨rfl, belowE_dn (HB.out _ _) _⟩
  · go_enter Tryz.func63, Tryz.ntmps63
    go_wp2
    go_quiet ((go_at_call 43; with_reducible exact Q1.out _))
    go_wp2
    go_ret
    exact ⟨rfl, belowE_dn (HB.out _ _) _⟩
/-- The bounds of a date's parts. -/
theorem IsDate.bds {y m d n : Int} (h : IsDate y m d n) (hn : n ≤ 99999) : 1900 ≤ y ∧ y ≤ 2173 ∧ 1 ≤ m ∧ m ≤ 12 ∧ 1 ≤ d ∧ d ≤ 31 ∧ 0 ≤ n := ⟨h.y0, h.y1 hn, h.m0, h.m1, h.d0, h.d31, h.n0⟩
theorem mon1_any {y1 m1 d1 n1 y2 m2 d2 n2 : Int} (h1 : IsDate y1 m1 d1 n1) (h2 : IsDate y2 m2 d2 n2) (b1 : n1 ≤ 99999) (b2 : n2 ≤ 99999) (q : Nat) (w : World) (hq : w.cell? ⟨q, 0, none⟩ = some (.func (.func 42) #[] #[])) :
    Calls Tryz.prog 63 #[.agg #[.int .i64 n1, .int .i64 y1, .int .i64 m1, .int .i64 d1], .agg #[.int .i64 n2, .int .i64 y2, .int .i64 m2, .int .i64 d2], .pointer (some ⟨q, 0, none⟩)] w (IntE (thirty y1 m1 d1 y2 m2 d2) w) := by
  obtain ⟨p0, p1, p2, p3, p4, p5, p6⟩ := h1.bds b1
  obtain ⟨q0, q1, q2, q3, q4, q5, q6⟩ := h2.bds b2
  refine mon1_walk n1 y1 m1 d1 n2 y2 m2 d2 (min d1 30) (min d2 30) (y2 - y1) (360 * (y2 - y1)) (m2 - m1) (30 * (m2 - m1)) (360 * (y2 - y1) + 30 * (m2 - m1)) (360 * (y2 - y1) + 30 * (m2 - m1) + min d2 30) _ q (by omega) w hq (IntWalk.i64_in _ (by omega)) (IntWalk.i64_in _ (by omega)) (IntWalk.i64_in _ (by omega)) (IntWalk.i64_in _ (by omega)) (IntWalk.i64_in _ (by omega)) (IntWalk.i64_in _ (by omega)) ?_ (fun W => cntd1_any _ _ _ rfl W)
  rw [IntWalk.i64_in _ (by omega)]
  unfold thirty thD
  omega
theorem mon2_any {y1 m1 d1 n1 y2 m2 d2 n2 : Int} (h1 : IsDate y1 m1 d1 n1) (h2 : IsDate y2 m2 d2 n2) (b1 : n1 ≤ 99999) (b2 : n2 ≤ 99999) (q : Nat) (w : World) (hq : w.cell? ⟨q, 0, none⟩ = some (.func (.func 43) #[] #[])) :
    Calls Tryz.prog 63 #[.agg #[.int .i64 n1, .int .i64 y1, .int .i64 m1, .int .i64 d1], .agg #[.int .i64 n2, .int .i64 y2, .int .i64 m2, .int .i64 d2], .pointer (some ⟨q, 0, none⟩)] w (IntE (bond y1 m1 d1 y2 m2 d2) w) := by
  obtain ⟨p0, p1, p2, p3, p4, p5, p6⟩ := h1.bds b1
  obtain ⟨q0, q1, q2, q3, q4, q5, q6⟩ := h2.bds b2
  have hc : 1 ≤ (if min d1 30 < 30 then d2 else min d2 30) ∧ (if min d1 30 < 30 then d2 else min d2 30) ≤ 31 := by split <;> omega
  refine mon2_walk n1 y1 m1 d1 n2 y2 m2 d2 (min d1 30) (if min d1 30 < 30 then d2 else min d2 30) (y2 - y1) (360 * (y2 - y1)) (m2 - m1) (30 * (m2 - m1)) (360 * (y2 - y1) + 30 * (m2 - m1)) (360 * (y2 - y1) + 30 * (m2 - m1) + (if min d1 30 < 30 then d2 else min d2 30)) _ q (by omega) w hq (IntWalk.i64_in _ (by omega)) (IntWalk.i64_in _ (by omega)) (IntWalk.i64_in _ (by omega)) (IntWalk.i64_in _ (by omega)) (IntWalk.i64_in _ (by omega)) (IntWalk.i64_in _ (by omega)) ?_ (fun W => cntd2_any _ _ _ rfl W)
  rw [IntWalk.i64_in _ (by omega)]
  unfold bond
  omega
end Go.Proofs.YtpgfadkkfofhcaaGreatDoor

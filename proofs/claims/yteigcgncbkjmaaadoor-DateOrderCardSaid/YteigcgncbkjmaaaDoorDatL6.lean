/- The walk of the law DateOrder. -/
import Derived.Test.YteigcgncbkjmaaaDoorDatI
import Derived.Deep.QuietTactic
import Derived.BigQuiet
namespace Go.Proofs.YteigcgncbkjmaaaDoor
open Go Go.RowKit

abbrev wAB (w : World) (a0 a1 a2 b0 b1 b2 : Int) : World :=
  (w.alloc (.cells #[.int .i64 a0, .int .i64 a1, .int .i64 a2] 48)).alloc (.cells #[.int .i64 b0, .int .i64 b1, .int .i64 b2] 48)
theorem ab_a {w w1 : World} {a0 a1 a2 b0 b1 b2 : Int} (h : Below (wAB w a0 a1 a2 b0 b1 b2).heap.size (wAB w a0 a1 a2 b0 b1 b2) w1) (k : Nat) :
    w1.cell? ⟨w.heap.size, k, none⟩ = (#[Value.int .i64 a0, .int .i64 a1, .int .i64 a2] : Array Value)[k]? := by
  refine (h.cell (p := ⟨w.heap.size, k, none⟩) (by show w.heap.size < _; simp [wAB]; omega)).trans ?_
  rw [World.cell?_alloc_lt _ _ ⟨w.heap.size, k, none⟩ (by simp), World.cell?_alloc_at _ _ _ _ rfl]
theorem ab_b {w w1 : World} {a0 a1 a2 b0 b1 b2 : Int} (h : Below (wAB w a0 a1 a2 b0 b1 b2).heap.size (wAB w a0 a1 a2 b0 b1 b2) w1) (k : Nat) :
    w1.cell? ⟨w.heap.size + 1, k, none⟩ = (#[Value.int .i64 b0, .int .i64 b1, .int .i64 b2] : Array Value)[k]? := by
  refine (h.cell (p := ⟨w.heap.size + 1, k, none⟩) (by show w.heap.size + 1 < _; simp [wAB])).trans ?_
  rw [World.cell?_alloc_at _ _ _ _ (by simp)]
theorem ab_below (w : World) (a0 a1 a2 b0 b1 b2 : Int) : Below w.heap.size w (wAB w a0 a1 a2 b0 b1 b2) :=
  ((Below.refl _ _).alloc (Nat.le_refl _) _).alloc (by simp) _

set_option maxRecDepth 100000 in
set_option maxHeartbeats 12800000 in
theorem order_ok (a0 a1 a2 b0 b1 b2 p q : Int) (ha : IsDate a0 a1 a2 p) (hb : IsDate b0 b1 b2 q) (hp : p ≤ 99999) (hq : q ≤ 99999) (w : World) (hv : VarS w) :
    Calls Tryd.prog 8 #[.agg #[.int .i64 a0, .int .i64 a1, .int .i64 a2], .agg #[.int .i64 b0, .int .i64 b1, .int .i64 b2]] w fun e w' => e = .returned (.bool true) ∧ Below w.heap.size w w' := by
  have HV := Lib.hid (hv.below (ab_below w a0 a1 a2 b0 b1 b2))
  have HA := Lib.hid (alive_any _ HV.out)
  have HP := Lib.hid (fun w1 h1 => of_at a0 a1 a2 p 0 (ha.of_v hp) (ha.of_e hp) w1 h1)
  have HQ := Lib.hid (fun w1 h1 => of_at b0 b1 b2 q 0 (hb.of_v hq) (hb.of_e hq) w1 h1)
  have HC := Lib.hid (fun w1 (b : Below (wAB w a0 a1 a2 b0 b1 b2).heap.size (wAB w a0 a1 a2 b0 b1 b2) w1) => ab_a b)
  have HD := Lib.hid (fun w1 (b : Below (wAB w a0 a1 a2 b0 b1 b2).heap.size (wAB w a0 a1 a2 b0 b1 b2) w1) => ab_b b)
  have HB := Lib.hid (ab_below w a0 a1 a2 b0 b1 b2)
  have hc : (a0 < b0 ∧ p < q) ∨ (b0 < a0 ∧ q < p) ∨ (a0 ≤ b0 ∧ b0 ≤ a0 ∧ a1 < b1 ∧ p < q) ∨ (a0 ≤ b0 ∧ b0 ≤ a0 ∧ b1 < a1 ∧ q < p) ∨
      (a0 ≤ b0 ∧ b0 ≤ a0 ∧ a1 ≤ b1 ∧ b1 ≤ a1 ∧ a2 < b2 ∧ p < q) ∨ (a0 ≤ b0 ∧ b0 ≤ a0 ∧ a1 ≤ b1 ∧ b1 ≤ a1 ∧ b2 < a2 ∧ q < p) ∨
      (a0 ≤ b0 ∧ b0 ≤ a0 ∧ a1 ≤ b1 ∧ b1 ≤ a1 ∧ a2 ≤ b2 ∧ b2 ≤ a2 ∧ p ≤ q ∧ q ≤ p) := by
    have x := ha.lex hb
    have y := hb.lex ha
    omega
  clear hv ha hb hp hq
  rcases hc with ⟨c1, c2⟩ | ⟨c1, c2⟩ | ⟨c1, c2, c3, c4⟩ | ⟨c1, c2, c3, c4⟩ | ⟨c1, c2, c3, c4, c5, c6⟩ | ⟨c1, c2, c3, c4, c5, c6⟩ | ⟨c1, c2, c3, c4, c5, c6, c7, c8⟩
  · have x0 : decide (a0 < b0) = true := by first | exact decide_eq_true (by omega) | exact decide_eq_false (by omega)
    have z0 : (a0 == b0) = false := by exact beq_eq_false_iff_ne.2 (by omega)
    go_enter Tryd.func8, Tryd.ntmps8
    go_wp2_with (first
      | (go_at_call 19; ((with_reducible refine HA.out.mono ?_); rintro e w1 ⟨rfl, b⟩; have B1 := Lib.hid b; have k0 := HC.out w1 b 0; have k1 := HC.out w1 b 1; have k2 := HC.out w1 b 2; have j0 := HD.out w1 b 0; have j1 := HD.out w1 b 1; have j2 := HD.out w1 b 2; clear b))
      | (go_at_call 13; (first | with_reducible refine (HP.out _ (HV.out.below B1.out).d).mono ?_ | with_reducible refine (HQ.out _ (HV.out.below B1.out).d).mono ?_); (rintro e w2 ⟨rfl, rfl⟩)))
    clear HA HP HQ HV
    go_loopw [10, 11, 12] (fun l s i wr => ((i = .int .i64 0 ∧ l = .bool false ∧ s = .bool true) ∨ (i = .int .i64 1 ∧ l = .bool true ∧ s = .bool false) ∨ (i = .int .i64 2 ∧ l = .bool true ∧ s = .bool false) ∨ (i = .int .i64 3 ∧ l = .bool true ∧ s = .bool false)) ∧ Hid (Below (wAB w a0 a1 a2 b0 b1 b2).heap.size (wAB w a0 a1 a2 b0 b1 b2) wr)) (fun _ _ i _ => 3 - (intOf i).toNat)
    case atStart => exact ⟨.inl ⟨rfl, rfl, rfl⟩, B1⟩
    case round =>
      clear k0 k1 k2 j0 j1 j2
      obtain ⟨hcase, hbel⟩ := hrel
      have k0 := HC.out wr hbel.out 0; have k1 := HC.out wr hbel.out 1; have k2 := HC.out wr hbel.out 2; have j0 := HD.out wr hbel.out 0; have j1 := HD.out wr hbel.out 1; have j2 := HD.out wr hbel.out 2
      rcases hcase with ⟨rfl, rfl, rfl⟩ | ⟨rfl, rfl, rfl⟩ | ⟨rfl, rfl, rfl⟩ | ⟨rfl, rfl, rfl⟩
      · go_wp2
        go_quiet (fail)
        have hbq := Lib.hid (below_drewN hbel.out nq)
        clear hbel k0 k1 k2 j0 j1 j2
        generalize wr.drewN nq = wq at *
        have k0 := HC.out wq hbq.out 0; have k1 := HC.out wq hbq.out 1; have k2 := HC.out wq hbq.out 2; have j0 := HD.out wq hbq.out 0; have j1 := HD.out wq hbq.out 1; have j2 := HD.out wq hbq.out 2
        go_wp2
        go_quiet (fail)
        have hbr := Lib.hid (below_drewN hbq.out nq)
        go_wp2
        go_round
        case rel => exact ⟨.inr (.inl ⟨rfl, rfl, rfl⟩), hbr⟩
        case measure => decide
      · go_wp2
        go_quiet (fail)
        have hbq := Lib.hid (below_drewN hbel.out nq)
        clear hbel k0 k1 k2 j0 j1 j2
        generalize wr.drewN nq = wq at *
        have k0 := HC.out wq hbq.out 0; have k1 := HC.out wq hbq.out 1; have k2 := HC.out wq hbq.out 2; have j0 := HD.out wq hbq.out 0; have j1 := HD.out wq hbq.out 1; have j2 := HD.out wq hbq.out 2
        go_wp2
        go_quiet (fail)
        have hbr := Lib.hid (below_drewN hbq.out nq)
        go_wp2
        go_round
        case rel => exact ⟨.inr (.inr (.inl ⟨rfl, rfl, rfl⟩)), hbr⟩
        case measure => decide
      · go_wp2
        go_quiet (fail)
        have hbq := Lib.hid (below_drewN hbel.out nq)
        clear hbel k0 k1 k2 j0 j1 j2
        generalize wr.drewN nq = wq at *
        have k0 := HC.out wq hbq.out 0; have k1 := HC.out wq hbq.out 1; have k2 := HC.out wq hbq.out 2; have j0 := HD.out wq hbq.out 0; have j1 := HD.out wq hbq.out 1; have j2 := HD.out wq hbq.out 2
        go_wp2
        go_quiet (fail)
        have hbr := Lib.hid (below_drewN hbq.out nq)
        go_wp2
        go_round
        case rel => exact ⟨.inr (.inr (.inr ⟨rfl, rfl, rfl⟩)), hbr⟩
        case measure => decide
      · have xp : decide (p < q) = true := by first | exact decide_eq_true (by omega) | exact decide_eq_false (by omega)
        have zp : (p == q) = false := by first | exact beq_iff_eq.2 (by omega) | exact beq_eq_false_iff_ne.2 (by omega)
        go_wp2
        go_ret
        first | exact ⟨rfl, bt HB.out hbel.out⟩ | exact ⟨ret_bool (by simp [xp, zp]), bt HB.out hbel.out⟩
  · have x0 : decide (a0 < b0) = false := by first | exact decide_eq_true (by omega) | exact decide_eq_false (by omega)
    have z0 : (a0 == b0) = false := by exact beq_eq_false_iff_ne.2 (by omega)
    go_enter Tryd.func8, Tryd.ntmps8
    go_wp2_with (first
      | (go_at_call 19; ((with_reducible refine HA.out.mono ?_); rintro e w1 ⟨rfl, b⟩; have B1 := Lib.hid b; have k0 := HC.out w1 b 0; have k1 := HC.out w1 b 1; have k2 := HC.out w1 b 2; have j0 := HD.out w1 b 0; have j1 := HD.out w1 b 1; have j2 := HD.out w1 b 2; clear b))
      | (go_at_call 13; (first | with_reducible refine (HP.out _ (HV.out.below B1.out).d).mono ?_ | with_reducible refine (HQ.out _ (HV.out.below B1.out).d).mono ?_); (rintro e w2 ⟨rfl, rfl⟩)))
    clear HA HP HQ HV
    go_loopw [10, 11, 12] (fun l s i wr => ((i = .int .i64 0 ∧ l = .bool false ∧ s = .bool true) ∨ (i = .int .i64 1 ∧ l = .bool false ∧ s = .bool false) ∨ (i = .int .i64 2 ∧ l = .bool false ∧ s = .bool false) ∨ (i = .int .i64 3 ∧ l = .bool false ∧ s = .bool false)) ∧ Hid (Below (wAB w a0 a1 a2 b0 b1 b2).heap.size (wAB w a0 a1 a2 b0 b1 b2) wr)) (fun _ _ i _ => 3 - (intOf i).toNat)
    case atStart => exact ⟨.inl ⟨rfl, rfl, rfl⟩, B1⟩
    case round =>
      clear k0 k1 k2 j0 j1 j2
      obtain ⟨hcase, hbel⟩ := hrel
      have k0 := HC.out wr hbel.out 0; have k1 := HC.out wr hbel.out 1; have k2 := HC.out wr hbel.out 2; have j0 := HD.out wr hbel.out 0; have j1 := HD.out wr hbel.out 1; have j2 := HD.out wr hbel.out 2
      rcases hcase with ⟨rfl, rfl, rfl⟩ | ⟨rfl, rfl, rfl⟩ | ⟨rfl, rfl, rfl⟩ | ⟨rfl, rfl, rfl⟩
      · go_wp2
        go_quiet (fail)
        have hbq := Lib.hid (below_drewN hbel.out nq)
        clear hbel k0 k1 k2 j0 j1 j2
        generalize wr.drewN nq = wq at *
        have k0 := HC.out wq hbq.out 0; have k1 := HC.out wq hbq.out 1; have k2 := HC.out wq hbq.out 2; have j0 := HD.out wq hbq.out 0; have j1 := HD.out wq hbq.out 1; have j2 := HD.out wq hbq.out 2
        go_wp2
        go_quiet (fail)
        have hbr := Lib.hid (below_drewN hbq.out nq)
        go_wp2
        go_round
        case rel => exact ⟨.inr (.inl ⟨rfl, rfl, rfl⟩), hbr⟩
        case measure => decide
      · go_wp2
        go_quiet (fail)
        have hbq := Lib.hid (below_drewN hbel.out nq)
        clear hbel k0 k1 k2 j0 j1 j2
        generalize wr.drewN nq = wq at *
        have k0 := HC.out wq hbq.out 0; have k1 := HC.out wq hbq.out 1; have k2 := HC.out wq hbq.out 2; have j0 := HD.out wq hbq.out 0; have j1 := HD.out wq hbq.out 1; have j2 := HD.out wq hbq.out 2
        go_wp2
        go_quiet (fail)
        have hbr := Lib.hid (below_drewN hbq.out nq)
        go_wp2
        go_round
        case rel => exact ⟨.inr (.inr (.inl ⟨rfl, rfl, rfl⟩)), hbr⟩
        case measure => decide
      · go_wp2
        go_quiet (fail)
        have hbq := Lib.hid (below_drewN hbel.out nq)
        clear hbel k0 k1 k2 j0 j1 j2
        generalize wr.drewN nq = wq at *
        have k0 := HC.out wq hbq.out 0; have k1 := HC.out wq hbq.out 1; have k2 := HC.out wq hbq.out 2; have j0 := HD.out wq hbq.out 0; have j1 := HD.out wq hbq.out 1; have j2 := HD.out wq hbq.out 2
        go_wp2
        go_quiet (fail)
        have hbr := Lib.hid (below_drewN hbq.out nq)
        go_wp2
        go_round
        case rel => exact ⟨.inr (.inr (.inr ⟨rfl, rfl, rfl⟩)), hbr⟩
        case measure => decide
      · have xp : decide (p < q) = false := by first | exact decide_eq_true (by omega) | exact decide_eq_false (by omega)
        have zp : (p == q) = false := by first | exact beq_iff_eq.2 (by omega) | exact beq_eq_false_iff_ne.2 (by omega)
        go_wp2
        go_ret
        first | exact ⟨rfl, bt HB.out hbel.out⟩ | exact ⟨ret_bool (by simp [xp, zp]), bt HB.out hbel.out⟩
  · have x0 : decide (a0 < b0) = false := by first | exact decide_eq_true (by omega) | exact decide_eq_false (by omega)
    have z0 : (a0 == b0) = true := by exact beq_iff_eq.2 (by omega)
    have x1 : decide (a1 < b1) = true := by first | exact decide_eq_true (by omega) | exact decide_eq_false (by omega)
    have z1 : (a1 == b1) = false := by exact beq_eq_false_iff_ne.2 (by omega)
    go_enter Tryd.func8, Tryd.ntmps8
    go_wp2_with (first
      | (go_at_call 19; ((with_reducible refine HA.out.mono ?_); rintro e w1 ⟨rfl, b⟩; have B1 := Lib.hid b; have k0 := HC.out w1 b 0; have k1 := HC.out w1 b 1; have k2 := HC.out w1 b 2; have j0 := HD.out w1 b 0; have j1 := HD.out w1 b 1; have j2 := HD.out w1 b 2; clear b))
      | (go_at_call 13; (first | with_reducible refine (HP.out _ (HV.out.below B1.out).d).mono ?_ | with_reducible refine (HQ.out _ (HV.out.below B1.out).d).mono ?_); (rintro e w2 ⟨rfl, rfl⟩)))
    clear HA HP HQ HV
    go_loopw [10, 11, 12] (fun l s i wr => ((i = .int .i64 0 ∧ l = .bool false ∧ s = .bool true) ∨ (i = .int .i64 1 ∧ l = .bool false ∧ s = .bool true) ∨ (i = .int .i64 2 ∧ l = .bool true ∧ s = .bool false) ∨ (i = .int .i64 3 ∧ l = .bool true ∧ s = .bool false)) ∧ Hid (Below (wAB w a0 a1 a2 b0 b1 b2).heap.size (wAB w a0 a1 a2 b0 b1 b2) wr)) (fun _ _ i _ => 3 - (intOf i).toNat)
    case atStart => exact ⟨.inl ⟨rfl, rfl, rfl⟩, B1⟩
    case round =>
      clear k0 k1 k2 j0 j1 j2
      obtain ⟨hcase, hbel⟩ := hrel
      have k0 := HC.out wr hbel.out 0; have k1 := HC.out wr hbel.out 1; have k2 := HC.out wr hbel.out 2; have j0 := HD.out wr hbel.out 0; have j1 := HD.out wr hbel.out 1; have j2 := HD.out wr hbel.out 2
      rcases hcase with ⟨rfl, rfl, rfl⟩ | ⟨rfl, rfl, rfl⟩ | ⟨rfl, rfl, rfl⟩ | ⟨rfl, rfl, rfl⟩
      · go_wp2
        go_quiet (fail)
        have hbq := Lib.hid (below_drewN hbel.out nq)
        clear hbel k0 k1 k2 j0 j1 j2
        generalize wr.drewN nq = wq at *
        have k0 := HC.out wq hbq.out 0; have k1 := HC.out wq hbq.out 1; have k2 := HC.out wq hbq.out 2; have j0 := HD.out wq hbq.out 0; have j1 := HD.out wq hbq.out 1; have j2 := HD.out wq hbq.out 2
        go_wp2
        go_quiet (fail)
        have hbr := Lib.hid (below_drewN hbq.out nq)
        go_wp2
        go_round
        case rel => exact ⟨.inr (.inl ⟨rfl, rfl, rfl⟩), hbr⟩
        case measure => decide
      · go_wp2
        go_quiet (fail)
        have hbq := Lib.hid (below_drewN hbel.out nq)
        clear hbel k0 k1 k2 j0 j1 j2
        generalize wr.drewN nq = wq at *
        have k0 := HC.out wq hbq.out 0; have k1 := HC.out wq hbq.out 1; have k2 := HC.out wq hbq.out 2; have j0 := HD.out wq hbq.out 0; have j1 := HD.out wq hbq.out 1; have j2 := HD.out wq hbq.out 2
        go_wp2
        go_quiet (fail)
        have hbr := Lib.hid (below_drewN hbq.out nq)
        go_wp2
        go_round
        case rel => exact ⟨.inr (.inr (.inl ⟨rfl, rfl, rfl⟩)), hbr⟩
        case measure => decide
      · go_wp2
        go_quiet (fail)
        have hbq := Lib.hid (below_drewN hbel.out nq)
        clear hbel k0 k1 k2 j0 j1 j2
        generalize wr.drewN nq = wq at *
        have k0 := HC.out wq hbq.out 0; have k1 := HC.out wq hbq.out 1; have k2 := HC.out wq hbq.out 2; have j0 := HD.out wq hbq.out 0; have j1 := HD.out wq hbq.out 1; have j2 := HD.out wq hbq.out 2
        go_wp2
        go_quiet (fail)
        have hbr := Lib.hid (below_drewN hbq.out nq)
        go_wp2
        go_round
        case rel => exact ⟨.inr (.inr (.inr ⟨rfl, rfl, rfl⟩)), hbr⟩
        case measure => decide
      · have xp : decide (p < q) = true := by first | exact decide_eq_true (by omega) | exact decide_eq_false (by omega)
        have zp : (p == q) = false := by first | exact beq_iff_eq.2 (by omega) | exact beq_eq_false_iff_ne.2 (by omega)
        go_wp2
        go_ret
        first | exact ⟨rfl, bt HB.out hbel.out⟩ | exact ⟨ret_bool (by simp [xp, zp]), bt HB.out hbel.out⟩
  · have x0 : decide (a0 < b0) = false := by first | exact decide_eq_true (by omega) | exact decide_eq_false (by omega)
    have z0 : (a0 == b0) = true := by exact beq_iff_eq.2 (by omega)
    have x1 : decide (a1 < b1) = false := by first | exact decide_eq_true (by omega) | exact decide_eq_false (by omega)
    have z1 : (a1 == b1) = false := by exact beq_eq_false_iff_ne.2 (by omega)
    go_enter Tryd.func8, Tryd.ntmps8
    go_wp2_with (first
      | (go_at_call 19; ((with_reducible refine HA.out.mono ?_); rintro e w1 ⟨rfl, b⟩; have B1 := Lib.hid b; have k0 := HC.out w1 b 0; have k1 := HC.out w1 b 1; have k2 := HC.out w1 b 2; have j0 := HD.out w1 b 0; have j1 := HD.out w1 b 1; have j2 := HD.out w1 b 2; clear b))
      | (go_at_call 13; (first | with_reducible refine (HP.out _ (HV.out.below B1.out).d).mono ?_ | with_reducible refine (HQ.out _ (HV.out.below B1.out).d).mono ?_); (rintro e w2 ⟨rfl, rfl⟩)))
    clear HA HP HQ HV
    go_loopw [10, 11, 12] (fun l s i wr => ((i = .int .i64 0 ∧ l = .bool false ∧ s = .bool true) ∨ (i = .int .i64 1 ∧ l = .bool false ∧ s = .bool true) ∨ (i = .int .i64 2 ∧ l = .bool false ∧ s = .bool false) ∨ (i = .int .i64 3 ∧ l = .bool false ∧ s = .bool false)) ∧ Hid (Below (wAB w a0 a1 a2 b0 b1 b2).heap.size (wAB w a0 a1 a2 b0 b1 b2) wr)) (fun _ _ i _ => 3 - (intOf i).toNat)
    case atStart => exact ⟨.inl ⟨rfl, rfl, rfl⟩, B1⟩
    case round =>
      clear k0 k1 k2 j0 j1 j2
      obtain ⟨hcase, hbel⟩ := hrel
      have k0 := HC.out wr hbel.out 0; have k1 := HC.out wr hbel.out 1; have k2 := HC.out wr hbel.out 2; have j0 := HD.out wr hbel.out 0; have j1 := HD.out wr hbel.out 1; have j2 := HD.out wr hbel.out 2
      rcases hcase with ⟨rfl, rfl, rfl⟩ | ⟨rfl, rfl, rfl⟩ | ⟨rfl, rfl, rfl⟩ | ⟨rfl, rfl, rfl⟩
      · go_wp2
        go_quiet (fail)
        have hbq := Lib.hid (below_drewN hbel.out nq)
        clear hbel k0 k1 k2 j0 j1 j2
        generalize wr.drewN nq = wq at *
        have k0 := HC.out wq hbq.out 0; have k1 := HC.out wq hbq.out 1; have k2 := HC.out wq hbq.out 2; have j0 := HD.out wq hbq.out 0; have j1 := HD.out wq hbq.out 1; have j2 := HD.out wq hbq.out 2
        go_wp2
        go_quiet (fail)
        have hbr := Lib.hid (below_drewN hbq.out nq)
        go_wp2
        go_round
        case rel => exact ⟨.inr (.inl ⟨rfl, rfl, rfl⟩), hbr⟩
        case measure => decide
      · go_wp2
        go_quiet (fail)
        have hbq := Lib.hid (below_drewN hbel.out nq)
        clear hbel k0 k1 k2 j0 j1 j2
        generalize wr.drewN nq = wq at *
        have k0 := HC.out wq hbq.out 0; have k1 := HC.out wq hbq.out 1; have k2 := HC.out wq hbq.out 2; have j0 := HD.out wq hbq.out 0; have j1 := HD.out wq hbq.out 1; have j2 := HD.out wq hbq.out 2
        go_wp2
        go_quiet (fail)
        have hbr := Lib.hid (below_drewN hbq.out nq)
        go_wp2
        go_round
        case rel => exact ⟨.inr (.inr (.inl ⟨rfl, rfl, rfl⟩)), hbr⟩
        case measure => decide
      · go_wp2
        go_quiet (fail)
        have hbq := Lib.hid (below_drewN hbel.out nq)
        clear hbel k0 k1 k2 j0 j1 j2
        generalize wr.drewN nq = wq at *
        have k0 := HC.out wq hbq.out 0; have k1 := HC.out wq hbq.out 1; have k2 := HC.out wq hbq.out 2; have j0 := HD.out wq hbq.out 0; have j1 := HD.out wq hbq.out 1; have j2 := HD.out wq hbq.out 2
        go_wp2
        go_quiet (fail)
        have hbr := Lib.hid (below_drewN hbq.out nq)
        go_wp2
        go_round
        case rel => exact ⟨.inr (.inr (.inr ⟨rfl, rfl, rfl⟩)), hbr⟩
        case measure => decide
      · have xp : decide (p < q) = false := by first | exact decide_eq_true (by omega) | exact decide_eq_false (by omega)
        have zp : (p == q) = false := by first | exact beq_iff_eq.2 (by omega) | exact beq_eq_false_iff_ne.2 (by omega)
        go_wp2
        go_ret
        first | exact ⟨rfl, bt HB.out hbel.out⟩ | exact ⟨ret_bool (by simp [xp, zp]), bt HB.out hbel.out⟩
  · have x0 : decide (a0 < b0) = false := by first | exact decide_eq_true (by omega) | exact decide_eq_false (by omega)
    have z0 : (a0 == b0) = true := by exact beq_iff_eq.2 (by omega)
    have x1 : decide (a1 < b1) = false := by first | exact decide_eq_true (by omega) | exact decide_eq_false (by omega)
    have z1 : (a1 == b1) = true := by exact beq_iff_eq.2 (by omega)
    have x2 : decide (a2 < b2) = true := by first | exact decide_eq_true (by omega) | exact decide_eq_false (by omega)
    have z2 : (a2 == b2) = false := by exact beq_eq_false_iff_ne.2 (by omega)
    go_enter Tryd.func8, Tryd.ntmps8
    go_wp2_with (first
      | (go_at_call 19; ((with_reducible refine HA.out.mono ?_); rintro e w1 ⟨rfl, b⟩; have B1 := Lib.hid b; have k0 := HC.out w1 b 0; have k1 := HC.out w1 b 1; have k2 := HC.out w1 b 2; have j0 := HD.out w1 b 0; have j1 := HD.out w1 b 1; have j2 := HD.out w1 b 2; clear b))
      | (go_at_call 13; (first | with_reducible refine (HP.out _ (HV.out.below B1.out).d).mono ?_ | with_reducible refine (HQ.out _ (HV.out.below B1.out).d).mono ?_); (rintro e w2 ⟨rfl, rfl⟩)))
    clear HA HP HQ HV
    go_loopw [10, 11, 12] (fun l s i wr => ((i = .int .i64 0 ∧ l = .bool false ∧ s = .bool true) ∨ (i = .int .i64 1 ∧ l = .bool false ∧ s = .bool true) ∨ (i = .int .i64 2 ∧ l = .bool false ∧ s = .bool true) ∨ (i = .int .i64 3 ∧ l = .bool true ∧ s = .bool false)) ∧ Hid (Below (wAB w a0 a1 a2 b0 b1 b2).heap.size (wAB w a0 a1 a2 b0 b1 b2) wr)) (fun _ _ i _ => 3 - (intOf i).toNat)
    case atStart => exact ⟨.inl ⟨rfl, rfl, rfl⟩, B1⟩
    case round =>
      clear k0 k1 k2 j0 j1 j2
      obtain ⟨hcase, hbel⟩ := hrel
      have k0 := HC.out wr hbel.out 0; have k1 := HC.out wr hbel.out 1; have k2 := HC.out wr hbel.out 2; have j0 := HD.out wr hbel.out 0; have j1 := HD.out wr hbel.out 1; have j2 := HD.out wr hbel.out 2
      rcases hcase with ⟨rfl, rfl, rfl⟩ | ⟨rfl, rfl, rfl⟩ | ⟨rfl, rfl, rfl⟩ | ⟨rfl, rfl, rfl⟩
      · go_wp2
        go_quiet (fail)
        have hbq := Lib.hid (below_drewN hbel.out nq)
        clear hbel k0 k1 k2 j0 j1 j2
        generalize wr.drewN nq = wq at *
        have k0 := HC.out wq hbq.out 0; have k1 := HC.out wq hbq.out 1; have k2 := HC.out wq hbq.out 2; have j0 := HD.out wq hbq.out 0; have j1 := HD.out wq hbq.out 1; have j2 := HD.out wq hbq.out 2
        go_wp2
        go_quiet (fail)
        have hbr := Lib.hid (below_drewN hbq.out nq)
        go_wp2
        go_round
        case rel => exact ⟨.inr (.inl ⟨rfl, rfl, rfl⟩), hbr⟩
        case measure => decide
      · go_wp2
        go_quiet (fail)
        have hbq := Lib.hid (below_drewN hbel.out nq)
        clear hbel k0 k1 k2 j0 j1 j2
        generalize wr.drewN nq = wq at *
        have k0 := HC.out wq hbq.out 0; have k1 := HC.out wq hbq.out 1; have k2 := HC.out wq hbq.out 2; have j0 := HD.out wq hbq.out 0; have j1 := HD.out wq hbq.out 1; have j2 := HD.out wq hbq.out 2
        go_wp2
        go_quiet (fail)
        have hbr := Lib.hid (below_drewN hbq.out nq)
        go_wp2
        go_round
        case rel => exact ⟨.inr (.inr (.inl ⟨rfl, rfl, rfl⟩)), hbr⟩
        case measure => decide
      · go_wp2
        go_quiet (fail)
        have hbq := Lib.hid (below_drewN hbel.out nq)
        clear hbel k0 k1 k2 j0 j1 j2
        generalize wr.drewN nq = wq at *
        have k0 := HC.out wq hbq.out 0; have k1 := HC.out wq hbq.out 1; have k2 := HC.out wq hbq.out 2; have j0 := HD.out wq hbq.out 0; have j1 := HD.out wq hbq.out 1; have j2 := HD.out wq hbq.out 2
        go_wp2
        go_quiet (fail)
        have hbr := Lib.hid (below_drewN hbq.out nq)
        go_wp2
        go_round
        case rel => exact ⟨.inr (.inr (.inr ⟨rfl, rfl, rfl⟩)), hbr⟩
        case measure => decide
      · have xp : decide (p < q) = true := by first | exact decide_eq_true (by omega) | exact decide_eq_false (by omega)
        have zp : (p == q) = false := by first | exact beq_iff_eq.2 (by omega) | exact beq_eq_false_iff_ne.2 (by omega)
        go_wp2
        go_ret
        first | exact ⟨rfl, bt HB.out hbel.out⟩ | exact ⟨ret_bool (by simp [xp, zp]), bt HB.out hbel.out⟩
  · have x0 : decide (a0 < b0) = false := by first | exact decide_eq_true (by omega) | exact decide_eq_false (by omega)
    have z0 : (a0 == b0) = true := by exact beq_iff_eq.2 (by omega)
    have x1 : decide (a1 < b1) = false := by first | exact decide_eq_true (by omega) | exact decide_eq_false (by omega)
    have z1 : (a1 == b1) = true := by exact beq_iff_eq.2 (by omega)
    have x2 : decide (a2 < b2) = false := by first | exact decide_eq_true (by omega) | exact decide_eq_false (by omega)
    have z2 : (a2 == b2) = false := by exact beq_eq_false_iff_ne.2 (by omega)
    go_enter Tryd.func8, Tryd.ntmps8
    go_wp2_with (first
      | (go_at_call 19; ((with_reducible refine HA.out.mono ?_); rintro e w1 ⟨rfl, b⟩; have B1 := Lib.hid b; have k0 := HC.out w1 b 0; have k1 := HC.out w1 b 1; have k2 := HC.out w1 b 2; have j0 := HD.out w1 b 0; have j1 := HD.out w1 b 1; have j2 := HD.out w1 b 2; clear b))
      | (go_at_call 13; (first | with_reducible refine (HP.out _ (HV.out.below B1.out).d).mono ?_ | with_reducible refine (HQ.out _ (HV.out.below B1.out).d).mono ?_); (rintro e w2 ⟨rfl, rfl⟩)))
    clear HA HP HQ HV
    go_loopw [10, 11, 12] (fun l s i wr => ((i = .int .i64 0 ∧ l = .bool false ∧ s = .bool true) ∨ (i = .int .i64 1 ∧ l = .bool false ∧ s = .bool true) ∨ (i = .int .i64 2 ∧ l = .bool false ∧ s = .bool true) ∨ (i = .int .i64 3 ∧ l = .bool false ∧ s = .bool false)) ∧ Hid (Below (wAB w a0 a1 a2 b0 b1 b2).heap.size (wAB w a0 a1 a2 b0 b1 b2) wr)) (fun _ _ i _ => 3 - (intOf i).toNat)
    case atStart => exact ⟨.inl ⟨rfl, rfl, rfl⟩, B1⟩
    case round =>
      clear k0 k1 k2 j0 j1 j2
      obtain ⟨hcase, hbel⟩ := hrel
      have k0 := HC.out wr hbel.out 0; have k1 := HC.out wr hbel.out 1; have k2 := HC.out wr hbel.out 2; have j0 := HD.out wr hbel.out 0; have j1 := HD.out wr hbel.out 1; have j2 := HD.out wr hbel.out 2
      rcases hcase with ⟨rfl, rfl, rfl⟩ | ⟨rfl, rfl, rfl⟩ | ⟨rfl, rfl, rfl⟩ | ⟨rfl, rfl, rfl⟩
      · go_wp2
        go_quiet (fail)
        have hbq := Lib.hid (below_drewN hbel.out nq)
        clear hbel k0 k1 k2 j0 j1 j2
        generalize wr.drewN nq = wq at *
        have k0 := HC.out wq hbq.out 0; have k1 := HC.out wq hbq.out 1; have k2 := HC.out wq hbq.out 2; have j0 := HD.out wq hbq.out 0; have j1 := HD.out wq hbq.out 1; have j2 := HD.out wq hbq.out 2
        go_wp2
        go_quiet (fail)
        have hbr := Lib.hid (below_drewN hbq.out nq)
        go_wp2
        go_round
        case rel => exact ⟨.inr (.inl ⟨rfl, rfl, rfl⟩), hbr⟩
        case measure => decide
      · go_wp2
        go_quiet (fail)
        have hbq := Lib.hid (below_drewN hbel.out nq)
        clear hbel k0 k1 k2 j0 j1 j2
        generalize wr.drewN nq = wq at *
        have k0 := HC.out wq hbq.out 0; have k1 := HC.out wq hbq.out 1; have k2 := HC.out wq hbq.out 2; have j0 := HD.out wq hbq.out 0; have j1 := HD.out wq hbq.out 1; have j2 := HD.out wq hbq.out 2
        go_wp2
        go_quiet (fail)
        have hbr := Lib.hid (below_drewN hbq.out nq)
        go_wp2
        go_round
        case rel => exact ⟨.inr (.inr (.inl ⟨rfl, rfl, rfl⟩)), hbr⟩
        case measure => decide
      · go_wp2
        go_quiet (fail)
        have hbq := Lib.hid (below_drewN hbel.out nq)
        clear hbel k0 k1 k2 j0 j1 j2
        generalize wr.drewN nq = wq at *
        have k0 := HC.out wq hbq.out 0; have k1 := HC.out wq hbq.out 1; have k2 := HC.out wq hbq.out 2; have j0 := HD.out wq hbq.out 0; have j1 := HD.out wq hbq.out 1; have j2 := HD.out wq hbq.out 2
        go_wp2
        go_quiet (fail)
        have hbr := Lib.hid (below_drewN hbq.out nq)
        go_wp2
        go_round
        case rel => exact ⟨.inr (.inr (.inr ⟨rfl, rfl, rfl⟩)), hbr⟩
        case measure => decide
      · have xp : decide (p < q) = false := by first | exact decide_eq_true (by omega) | exact decide_eq_false (by omega)
        have zp : (p == q) = false := by first | exact beq_iff_eq.2 (by omega) | exact beq_eq_false_iff_ne.2 (by omega)
        go_wp2
        go_ret
        first | exact ⟨rfl, bt HB.out hbel.out⟩ | exact ⟨ret_bool (by simp [xp, zp]), bt HB.out hbel.out⟩
  · have x0 : decide (a0 < b0) = false := by first | exact decide_eq_true (by omega) | exact decide_eq_false (by omega)
    have z0 : (a0 == b0) = true := by exact beq_iff_eq.2 (by omega)
    have x1 : decide (a1 < b1) = false := by first | exact decide_eq_true (by omega) | exact decide_eq_false (by omega)
    have z1 : (a1 == b1) = true := by exact beq_iff_eq.2 (by omega)
    have x2 : decide (a2 < b2) = false := by first | exact decide_eq_true (by omega) | exact decide_eq_false (by omega)
    have z2 : (a2 == b2) = true := by exact beq_iff_eq.2 (by omega)
    go_enter Tryd.func8, Tryd.ntmps8
    go_wp2_with (first
      | (go_at_call 19; ((with_reducible refine HA.out.mono ?_); rintro e w1 ⟨rfl, b⟩; have B1 := Lib.hid b; have k0 := HC.out w1 b 0; have k1 := HC.out w1 b 1; have k2 := HC.out w1 b 2; have j0 := HD.out w1 b 0; have j1 := HD.out w1 b 1; have j2 := HD.out w1 b 2; clear b))
      | (go_at_call 13; (first | with_reducible refine (HP.out _ (HV.out.below B1.out).d).mono ?_ | with_reducible refine (HQ.out _ (HV.out.below B1.out).d).mono ?_); (rintro e w2 ⟨rfl, rfl⟩)))
    clear HA HP HQ HV
    go_loopw [10, 11, 12] (fun l s i wr => ((i = .int .i64 0 ∧ l = .bool false ∧ s = .bool true) ∨ (i = .int .i64 1 ∧ l = .bool false ∧ s = .bool true) ∨ (i = .int .i64 2 ∧ l = .bool false ∧ s = .bool true) ∨ (i = .int .i64 3 ∧ l = .bool false ∧ s = .bool true)) ∧ Hid (Below (wAB w a0 a1 a2 b0 b1 b2).heap.size (wAB w a0 a1 a2 b0 b1 b2) wr)) (fun _ _ i _ => 3 - (intOf i).toNat)
    case atStart => exact ⟨.inl ⟨rfl, rfl, rfl⟩, B1⟩
    case round =>
      clear k0 k1 k2 j0 j1 j2
      obtain ⟨hcase, hbel⟩ := hrel
      have k0 := HC.out wr hbel.out 0; have k1 := HC.out wr hbel.out 1; have k2 := HC.out wr hbel.out 2; have j0 := HD.out wr hbel.out 0; have j1 := HD.out wr hbel.out 1; have j2 := HD.out wr hbel.out 2
      rcases hcase with ⟨rfl, rfl, rfl⟩ | ⟨rfl, rfl, rfl⟩ | ⟨rfl, rfl, rfl⟩ | ⟨rfl, rfl, rfl⟩
      · go_wp2
        go_quiet (fail)
        have hbq := Lib.hid (below_drewN hbel.out nq)
        clear hbel k0 k1 k2 j0 j1 j2
        generalize wr.drewN nq = wq at *
        have k0 := HC.out wq hbq.out 0; have k1 := HC.out wq hbq.out 1; have k2 := HC.out wq hbq.out 2; have j0 := HD.out wq hbq.out 0; have j1 := HD.out wq hbq.out 1; have j2 := HD.out wq hbq.out 2
        go_wp2
        go_quiet (fail)
        have hbr := Lib.hid (below_drewN hbq.out nq)
        go_wp2
        go_round
        case rel => exact ⟨.inr (.inl ⟨rfl, rfl, rfl⟩), hbr⟩
        case measure => decide
      · go_wp2
        go_quiet (fail)
        have hbq := Lib.hid (below_drewN hbel.out nq)
        clear hbel k0 k1 k2 j0 j1 j2
        generalize wr.drewN nq = wq at *
        have k0 := HC.out wq hbq.out 0; have k1 := HC.out wq hbq.out 1; have k2 := HC.out wq hbq.out 2; have j0 := HD.out wq hbq.out 0; have j1 := HD.out wq hbq.out 1; have j2 := HD.out wq hbq.out 2
        go_wp2
        go_quiet (fail)
        have hbr := Lib.hid (below_drewN hbq.out nq)
        go_wp2
        go_round
        case rel => exact ⟨.inr (.inr (.inl ⟨rfl, rfl, rfl⟩)), hbr⟩
        case measure => decide
      · go_wp2
        go_quiet (fail)
        have hbq := Lib.hid (below_drewN hbel.out nq)
        clear hbel k0 k1 k2 j0 j1 j2
        generalize wr.drewN nq = wq at *
        have k0 := HC.out wq hbq.out 0; have k1 := HC.out wq hbq.out 1; have k2 := HC.out wq hbq.out 2; have j0 := HD.out wq hbq.out 0; have j1 := HD.out wq hbq.out 1; have j2 := HD.out wq hbq.out 2
        go_wp2
        go_quiet (fail)
        have hbr := Lib.hid (below_drewN hbq.out nq)
        go_wp2
        go_round
        case rel => exact ⟨.inr (.inr (.inr ⟨rfl, rfl, rfl⟩)), hbr⟩
        case measure => decide
      · have xp : decide (p < q) = false := by first | exact decide_eq_true (by omega) | exact decide_eq_false (by omega)
        have zp : (p == q) = true := by first | exact beq_iff_eq.2 (by omega) | exact beq_eq_false_iff_ne.2 (by omega)
        go_wp2
        go_ret
        first | exact ⟨rfl, bt HB.out hbel.out⟩ | exact ⟨ret_bool (by simp [xp, zp]), bt HB.out hbel.out⟩
theorem order_bad (a0 a1 a2 b0 b1 b2 p q e f : Int) (hp : ofV a0 a1 a2 = p ∧ ofE a0 a1 a2 = e) (hq : ofV b0 b1 b2 = q ∧ ofE b0 b1 b2 = f)
    (h : ((e = 2 ∧ p = 0) ∧ (f = 2 ∧ q = 0)) ∨ ((e = 2 ∧ p = 0) ∧ f = 0) ∨ (e = 0 ∧ (f = 2 ∧ q = 0))) (w : World) (hv : VarS w) :
    Calls Tryd.prog 8 #[.agg #[.int .i64 a0, .int .i64 a1, .int .i64 a2], .agg #[.int .i64 b0, .int .i64 b1, .int .i64 b2]] w fun e w' => e = .returned (.bool true) ∧ Below w.heap.size w w' := by
  have HV := Lib.hid (hv.below (ab_below w a0 a1 a2 b0 b1 b2))
  have HA := Lib.hid (alive_any _ HV.out)
  have HP := Lib.hid (fun w1 h1 => of_at a0 a1 a2 p e hp.1 hp.2 w1 h1)
  have HQ := Lib.hid (fun w1 h1 => of_at b0 b1 b2 q f hq.1 hq.2 w1 h1)
  have HC := Lib.hid (fun w1 (b : Below (wAB w a0 a1 a2 b0 b1 b2).heap.size (wAB w a0 a1 a2 b0 b1 b2) w1) => ab_a b)
  have HD := Lib.hid (fun w1 (b : Below (wAB w a0 a1 a2 b0 b1 b2).heap.size (wAB w a0 a1 a2 b0 b1 b2) w1) => ab_b b)
  have HB := Lib.hid (ab_below w a0 a1 a2 b0 b1 b2)
  clear hv hp hq
  rcases h with ⟨⟨rfl, rfl⟩, rfl, rfl⟩ | ⟨⟨rfl, rfl⟩, rfl⟩ | ⟨rfl, rfl, rfl⟩
  all_goals
    go_enter Tryd.func8, Tryd.ntmps8
    go_wp2_with (first
      | (go_at_call 19; ((with_reducible refine HA.out.mono ?_); rintro e w1 ⟨rfl, b⟩; have B1 := Lib.hid b; have k0 := HC.out w1 b 0; have k1 := HC.out w1 b 1; have k2 := HC.out w1 b 2; have j0 := HD.out w1 b 0; have j1 := HD.out w1 b 1; have j2 := HD.out w1 b 2; clear b))
      | (go_at_call 13; (first | with_reducible refine (HP.out _ (HV.out.below B1.out).d).mono ?_ | with_reducible refine (HQ.out _ (HV.out.below B1.out).d).mono ?_); (rintro e w2 ⟨rfl, rfl⟩)))
    go_ret
    exact ⟨rfl, bt HB.out B1.out⟩

theorem order_law (a0 a1 a2 b0 b1 b2 : Int) (w : World) (hv : VarS w) :
    Calls Tryd.prog 8 #[.agg #[.int .i64 a0, .int .i64 a1, .int .i64 a2], .agg #[.int .i64 b0, .int .i64 b1, .int .i64 b2]] w fun e w' => e = .returned (.bool true) ∧ Below w.heap.size w w' := by
  have bad : ∀ y m d, okB y m d = false → ofE y m d = 2 ∧ ofV y m d = 0 := fun y m d h => by unfold ofE ofV; rw [h]; exact ⟨rfl, rfl⟩
  have good : ∀ y m d, okB y m d = true → ofE y m d = 0 := fun y m d h => by unfold ofE; rw [h]; rfl
  cases ha : okB a0 a1 a2
  · cases hb : okB b0 b1 b2
    · exact order_bad a0 a1 a2 b0 b1 b2 _ _ _ _ ⟨rfl, rfl⟩ ⟨rfl, rfl⟩ (.inl ⟨bad _ _ _ ha, bad _ _ _ hb⟩) w hv
    · exact order_bad a0 a1 a2 b0 b1 b2 _ _ _ _ ⟨rfl, rfl⟩ ⟨rfl, rfl⟩ (.inr (.inl ⟨bad _ _ _ ha, good _ _ _ hb⟩)) w hv
  · cases hb : okB b0 b1 b2
    · exact order_bad a0 a1 a2 b0 b1 b2 _ _ _ _ ⟨rfl, rfl⟩ ⟨rfl, rfl⟩ (.inr (.inr ⟨good _ _ _ ha, bad _ _ _ hb⟩)) w hv
    · exact order_ok a0 a1 a2 b0 b1 b2 _ _ (okB_date ha).1 (okB_date hb).1 (okB_date ha).2 (okB_date hb).2 w hv
end Go.Proofs.YteigcgncbkjmaaaDoor

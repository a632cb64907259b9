/- Layer 6: the walks of the law ScheduleSteps, over what the program answers. -/
import Derived.Test.YtfheeipggedaiaaDoorScG
import Derived.Test.YtfheeipggedaiaaDoorScJ
import Derived.Test.YtfheeipggedaiaaDoorCalK
import Derived.BigQuiet
import Derived.Test.YtfheeipggedaiaaDoorScS
namespace Go.Proofs.YtfheeipggedaiaaDoor
open Go Go.RowKit

section
variable (st en mo : Int) (bk la : Bool) (sb ro we : Int) (A : Option Addr) (c : Nat) (hs : List Int)
set_option maxRecDepth 100000 in
set_option maxHeartbeats 3200000 in
theorem steps_great (w : World) (h : CalIn w we A c hs) (hg : grtB hs = true)
    (H0 : ∀ W, Below w.heap.size w W → Calls Tryd.prog 17 #[] W (BolS true W)) :
    Calls Tryd.prog 7 #[.agg #[.int .i64 st, .int .i64 en, .int .i64 mo, .bool bk, .bool la, .int .u8 sb, .int .u8 ro, .int .u8 we, .slice A hs.length c]] w fun e w' => e = .returned (.bool true) ∧ Below w.heap.size w w' := by
  have HG := Lib.hid (fun W (hb : Below w.heap.size w W) => great_anyC we A c hs true W (h.below hb) hg)
  have J0 := Lib.hid H0
  clear h hg H0
  go_enter Tryd.func7, Tryd.ntmps7
  go_wp2_with (first
    | (go_at_call 17; ((with_reducible refine (J0.out _ (belE_c _ _)).mono ?_); rintro x w1 ⟨rfl, b⟩; obtain ⟨q0, q1, q2, q3, q4, q5, q6, q7, q8⟩ := row9S b; have C1 := Lib.hid b; have B1 := Lib.hid (btS (belE_c _ _) b); clear b))
    | (go_at_call 18; ((with_reducible refine (HG.out _ B1.out).mono ?_); rintro x w2 ⟨rfl, b⟩; obtain ⟨q0, q1, q2, q3, q4, q5, q6, q7, q8⟩ := row9S (btS C1.out b); have C2 := Lib.hid (btS C1.out b); have B2 := Lib.hid (btS B1.out b); clear b)))
  go_ret
  exact ⟨rfl, B2.out⟩
set_option maxRecDepth 100000 in
set_option maxHeartbeats 3200000 in
theorem steps_err (E : Int) (hE : (E != 0) = true) (w : World) (h : CalIn w we A c hs) (hg : grtB hs = false)
    (H0 : ∀ W, Below w.heap.size w W → Calls Tryd.prog 17 #[] W (BolS true W))
    (H1 : ∀ W, Below w.heap.size w W → Calls Tryd.prog 11 #[.agg #[.int .i64 st, .int .i64 en, .int .i64 mo, .bool bk, .bool la, .int .u8 sb, .int .u8 ro, .int .u8 we, .slice A hs.length c]] W (DtsR [] E W)) :
    Calls Tryd.prog 7 #[.agg #[.int .i64 st, .int .i64 en, .int .i64 mo, .bool bk, .bool la, .int .u8 sb, .int .u8 ro, .int .u8 we, .slice A hs.length c]] w fun e w' => e = .returned (.bool true) ∧ Below w.heap.size w w' := by
  have HG := Lib.hid (fun W (hb : Below w.heap.size w W) => great_anyC we A c hs false W (h.below hb) hg)
  have J0 := Lib.hid H0
  have J1 := Lib.hid H1
  clear h hg H0 H1
  go_enter Tryd.func7, Tryd.ntmps7
  go_wp2_with (first
    | (go_at_call 17; ((with_reducible refine (J0.out _ (belE_c _ _)).mono ?_); rintro x w1 ⟨rfl, b⟩; obtain ⟨q0, q1, q2, q3, q4, q5, q6, q7, q8⟩ := row9S b; have C1 := Lib.hid b; have B1 := Lib.hid (btS (belE_c _ _) b); clear b))
    | (go_at_call 18; ((with_reducible refine (HG.out _ B1.out).mono ?_); rintro x w2 ⟨rfl, b⟩; obtain ⟨q0, q1, q2, q3, q4, q5, q6, q7, q8⟩ := row9S (btS C1.out b); have C2 := Lib.hid (btS C1.out b); have B2 := Lib.hid (btS B1.out b); clear b))
    | (go_at_call 11; ((with_reducible refine (J1.out _ B2.out).mono ?_); rintro x w3 ⟨A3, c3, rfl, h3, -, -, -, b⟩; obtain ⟨q0, q1, q2, q3, q4, q5, q6, q7, q8⟩ := row9S (btS C2.out b); have C3 := Lib.hid (btS C2.out b); have B3 := Lib.hid (btS B2.out b); have K3 := Lib.hid h3; clear b h3)))
  go_ret
  exact ⟨ret_boolD (by simp), B3.out⟩
end
set_option maxRecDepth 100000 in
set_option maxHeartbeats 3200000 in
theorem steps_ok0 (st en mo : Int) (la : Bool) (sb ro we : Int) (A : Option Addr) (c : Nat) (hs : List Int) (LL : List Int) (N : Nat) (hl : LL.length = N + 1) (n0 : 1 ≤ N) (n1 : N ≤ 99) (v : Nat → Int) (hv : ∀ k, 1 ≤ k → k < N → LL.getD k 0 = v k) (hlt : ∀ j, j < N → LL.getD j 0 < LL.getD (j + 1) 0) (h0 : LL.getD 0 0 = st) (hN : LL.getD N 0 = en) (m0 : 1 ≤ mo) (m1 : mo ≤ 1200) (w : World) (h : CalIn w we A c hs) (hg : grtB hs = false)
    (H0 : ∀ W, Below w.heap.size w W → Calls Tryd.prog 17 #[] W (BolS true W))
    (H1 : ∀ W, Below w.heap.size w W → Calls Tryd.prog 11 #[.agg #[.int .i64 st, .int .i64 en, .int .i64 mo, .bool false, .bool la, .int .u8 sb, .int .u8 ro, .int .u8 we, .slice A hs.length c]] W (DtsR LL 0 W))
    (H3 : ∀ (k : Nat) W, 1 ≤ k → k < N → Below w.heap.size w W → Calls Tryd.prog 25 #[.int .i64 st, .int .i64 ((k : Int) * mo), .bool la] W fun x w' => x = .returned (.tuple #[.int .i64 (v k), .int .i64 0]) ∧ W = w') :
    Calls Tryd.prog 7 #[.agg #[.int .i64 st, .int .i64 en, .int .i64 mo, .bool false, .bool la, .int .u8 sb, .int .u8 ro, .int .u8 we, .slice A hs.length c]] w fun e w' => e = .returned (.bool true) ∧ Below w.heap.size w w' := by
  have HG := Lib.hid (fun W (hb : Below w.heap.size w W) => great_anyC we A c hs false W (h.below hb) hg)
  have J0 := Lib.hid H0
  have J1 := Lib.hid H1
  have J3 := Lib.hid H3
  unfold DtsR at J1
  rw [hl] at J1
  have HL := Lib.hid hl
  have HV := Lib.hid hv
  have HLT := Lib.hid hlt
  have HZ0 := Lib.hid h0
  have HZN := Lib.hid hN
  clear h hg H0 H1 H3 hl hv hlt h0 hN
  go_enter Tryd.func7, Tryd.ntmps7
  go_wp2_with (first
    | (go_at_call 17; ((with_reducible refine (J0.out _ (belE_c _ _)).mono ?_); rintro x w1 ⟨rfl, b⟩; obtain ⟨q0, q1, q2, q3, q4, q5, q6, q7, q8⟩ := row9S b; have C1 := Lib.hid b; have B1 := Lib.hid (btS (belE_c _ _) b); clear b))
    | (go_at_call 18; ((with_reducible refine (HG.out _ B1.out).mono ?_); rintro x w2 ⟨rfl, b⟩; obtain ⟨q0, q1, q2, q3, q4, q5, q6, q7, q8⟩ := row9S (btS C1.out b); have C2 := Lib.hid (btS C1.out b); have B2 := Lib.hid (btS B1.out b); clear b))
    | (go_at_call 11; ((with_reducible refine (J1.out _ B2.out).mono ?_); rintro x w3 ⟨A3, c3, rfl, h3, -, -, -, b⟩; obtain ⟨q0, q1, q2, q3, q4, q5, q6, q7, q8⟩ := row9S (btS C2.out b); have C3 := Lib.hid (btS C2.out b); have B3 := Lib.hid (btS B2.out b); have K3 := Lib.hid h3; clear b h3)))
  clear q0 q1 q2 q3 q4 q5 q6 q7 q8
  go_loopw [6] (fun i wr => ∃ k : Nat, k + 1 ≤ N ∧ i = .int .i64 ((k : Int) + 1) ∧ Hid (Below (w.alloc (.cells #[.int .i64 st, .int .i64 en, .int .i64 mo, .bool false, .bool la, .int .u8 sb, .int .u8 ro, .int .u8 we, .slice A hs.length c] 27)).heap.size (w.alloc (.cells #[.int .i64 st, .int .i64 en, .int .i64 mo, .bool false, .bool la, .int .u8 sb, .int .u8 ro, .int .u8 we, .slice A hs.length c] 27)) wr) ∧ Hid (Below w3.heap.size w3 wr)) (fun i _ => N + 1 - (intOf i).toNat)
  case atStart => exact ⟨0, by omega, rfl, C3, Below.refl _ _⟩
  case round =>
    obtain ⟨k, hk, rfl, CR, DR⟩ := hrel
    obtain ⟨q0, q1, q2, q3, q4, q5, q6, q7, q8⟩ := row9S CR.out
    have BR := Lib.hid (btS (belE_c _ _) CR.out)
    by_cases hlt : k + 1 < N
    · obtain ⟨b, o, rfl, -, hcell⟩ := (K3.out.below DR.out).get (show k < LL.length by rw [HL.out]; omega)
      have d0 := hcell k (by rw [HL.out]; omega)
      have d1 := hcell (k + 1) (by rw [HL.out]; omega)
      have d2 := hcell (k + 1 + 1) (by rw [HL.out]; omega)
      have e1 := HV.out (k + 1) (by omega) hlt
      have HC := Lib.hid (fun W hW => J3.out (k + 1) W (by omega) hlt hW)
      rw [show ((k + 1 : Nat) : Int) = (k : Int) + 1 by omega] at HC
      have l01 := HLT.out k (by omega)
      have l12 := HLT.out (k + 1) (by omega)
      rw [← e1] at HC
      have x01 : decide (LL.getD (k + 1) 0 ≤ LL.getD k 0) = false := decide_eq_false (by omega)
      have x12 : decide (LL.getD (k + 1 + 1) 0 ≤ LL.getD (k + 1) 0) = false := decide_eq_false (by omega)
      have hk1 : (k : Int) + 1 < (N : Int) := by omega
      have hk9 : (k : Int) ≤ 99 := by omega
      have g00 : (0 : Int) ≤ (k : Int) := by omega
      have e9 : (k : Int) + 1 - 1 = (k : Int) := by omega
      have g01 : (0 : Int) ≤ (k : Int) + 1 := by omega
      have g02 : (0 : Int) ≤ (k : Int) + 1 + 1 := by omega
      have u00 : (k : Int) < (N : Int) + 1 := by omega
      have u01 : (k : Int) + 1 < (N : Int) + 1 := by omega
      have u02 : (k : Int) + 1 + 1 < (N : Int) + 1 := by omega
      have hm0 : 0 ≤ ((k : Int) + 1) * mo := Int.mul_nonneg (by omega) (by omega)
      have hm1 : ((k : Int) + 1) * mo ≤ 120000 := by
        have := Int.mul_le_mul (show (k : Int) + 1 ≤ 100 by omega) m1 (by omega) (by omega)
        omega
      clear hcell l01 l12 J3 J1 HV HLT HZ0 HZN K3
      clear e1
      generalize LL.getD k 0 = x at *
      generalize LL.getD (k + 1) 0 = y at *
      generalize LL.getD (k + 1 + 1) 0 = z at *
      go_wp2
      go_quiet (fail)
      have BQ := Lib.hid (below_dn BR.out nq)
      have CQ := Lib.hid (below_dn CR.out nq)
      have DQ := Lib.hid (below_dn DR.out nq)
      obtain ⟨W4, hW4⟩ : ∃ W4, wr.drewN nq = W4 := ⟨_, rfl⟩
      rw [hW4] at BQ CQ DQ
      have c0 : W4.cell? ⟨b, o + k, none⟩ = some (.int .i64 x) := by rw [← hW4]; exact d0
      have c1 : W4.cell? ⟨b, o + (k + 1), none⟩ = some (.int .i64 y) := by rw [← hW4]; exact d1
      have c2 : W4.cell? ⟨b, o + (k + 1 + 1), none⟩ = some (.int .i64 z) := by rw [← hW4]; exact d2
      rw [hW4]
      clear hW4 d0 d1 d2 q0 q1 q2 q3 q4 q5 q6 q7 q8 nq
      obtain ⟨q0, q1, q2, q3, q4, q5, q6, q7, q8⟩ := row9S CQ.out
      go_wp2_with (go_at_call 25; ((with_reducible refine (HC.out _ BQ.out).mono ?_); rintro x5 w5 ⟨rfl, rfl⟩))
      go_quiet (fail)
      go_wp2
      go_roundw
      case rel => exact ⟨k + 1, by omega, by go_num, below_dn CQ.out _, below_dn DQ.out _⟩
      case measure => simp [intOf]; omega
    · obtain rfl : N = k + 1 := by omega
      obtain ⟨b, o, rfl, -, hcell⟩ := (K3.out.below DR.out).get (show 0 < LL.length by rw [HL.out]; omega)
      have d0 := hcell 0 (by rw [HL.out]; omega)
      have d1 := hcell (k + 1) (by rw [HL.out]; omega)
      rw [HZ0.out, Nat.add_zero] at d0
      rw [HZN.out] at d1
      have e1 : ((k + 1 : Nat) : Int) = (k : Int) + 1 := by omega
      have hlt' : ¬ (k : Int) + 1 < (k : Int) + 1 := by omega
      have g01 : (0 : Int) ≤ (k : Int) + 1 := by omega
      have g02 : (0 : Int) < (k : Int) + 1 + 1 := by omega
      have u01 : (k : Int) + 1 < (k : Int) + 1 + 1 := by omega
      rw [e1]
      clear hcell J3 J1 HV HLT HZ0 HZN K3 e1
      go_wp2
      go_quiet (fail)
      go_wp2
      go_ret
      exact ⟨ret_boolD (by simp), below_dn BR.out _⟩
set_option maxRecDepth 100000 in
set_option maxHeartbeats 3200000 in
theorem steps_ok1 (st en mo : Int) (la : Bool) (sb ro we : Int) (A : Option Addr) (c : Nat) (hs : List Int) (LL : List Int) (N : Nat) (hl : LL.length = N + 1) (n0 : 1 ≤ N) (n1 : N ≤ 99) (v : Nat → Int) (hv : ∀ k, 1 ≤ k → k < N → LL.getD (N - k) 0 = v k) (hlt : ∀ j, j < N → LL.getD j 0 < LL.getD (j + 1) 0) (h0 : LL.getD 0 0 = st) (hN : LL.getD N 0 = en) (m0 : 1 ≤ mo) (m1 : mo ≤ 1200) (w : World) (h : CalIn w we A c hs) (hg : grtB hs = false)
    (H0 : ∀ W, Below w.heap.size w W → Calls Tryd.prog 17 #[] W (BolS true W))
    (H1 : ∀ W, Below w.heap.size w W → Calls Tryd.prog 11 #[.agg #[.int .i64 st, .int .i64 en, .int .i64 mo, .bool true, .bool la, .int .u8 sb, .int .u8 ro, .int .u8 we, .slice A hs.length c]] W (DtsR LL 0 W))
    (H3 : ∀ (k : Nat) W, 1 ≤ k → k < N → Below w.heap.size w W → Calls Tryd.prog 25 #[.int .i64 en, .int .i64 (-(k : Int) * mo), .bool la] W fun x w' => x = .returned (.tuple #[.int .i64 (v k), .int .i64 0]) ∧ W = w') :
    Calls Tryd.prog 7 #[.agg #[.int .i64 st, .int .i64 en, .int .i64 mo, .bool true, .bool la, .int .u8 sb, .int .u8 ro, .int .u8 we, .slice A hs.length c]] w fun e w' => e = .returned (.bool true) ∧ Below w.heap.size w w' := by
  have HG := Lib.hid (fun W (hb : Below w.heap.size w W) => great_anyC we A c hs false W (h.below hb) hg)
  have J0 := Lib.hid H0
  have J1 := Lib.hid H1
  have J3 := Lib.hid H3
  unfold DtsR at J1
  rw [hl] at J1
  have HL := Lib.hid hl
  have HV := Lib.hid hv
  have HLT := Lib.hid hlt
  have HZ0 := Lib.hid h0
  have HZN := Lib.hid hN
  clear h hg H0 H1 H3 hl hv hlt h0 hN
  go_enter Tryd.func7, Tryd.ntmps7
  go_wp2_with (first
    | (go_at_call 17; ((with_reducible refine (J0.out _ (belE_c _ _)).mono ?_); rintro x w1 ⟨rfl, b⟩; obtain ⟨q0, q1, q2, q3, q4, q5, q6, q7, q8⟩ := row9S b; have C1 := Lib.hid b; have B1 := Lib.hid (btS (belE_c _ _) b); clear b))
    | (go_at_call 18; ((with_reducible refine (HG.out _ B1.out).mono ?_); rintro x w2 ⟨rfl, b⟩; obtain ⟨q0, q1, q2, q3, q4, q5, q6, q7, q8⟩ := row9S (btS C1.out b); have C2 := Lib.hid (btS C1.out b); have B2 := Lib.hid (btS B1.out b); clear b))
    | (go_at_call 11; ((with_reducible refine (J1.out _ B2.out).mono ?_); rintro x w3 ⟨A3, c3, rfl, h3, -, -, -, b⟩; obtain ⟨q0, q1, q2, q3, q4, q5, q6, q7, q8⟩ := row9S (btS C2.out b); have C3 := Lib.hid (btS C2.out b); have B3 := Lib.hid (btS B2.out b); have K3 := Lib.hid h3; clear b h3)))
  clear q0 q1 q2 q3 q4 q5 q6 q7 q8
  go_loopw [6] (fun i wr => ∃ k : Nat, k + 1 ≤ N ∧ i = .int .i64 ((k : Int) + 1) ∧ Hid (Below (w.alloc (.cells #[.int .i64 st, .int .i64 en, .int .i64 mo, .bool true, .bool la, .int .u8 sb, .int .u8 ro, .int .u8 we, .slice A hs.length c] 27)).heap.size (w.alloc (.cells #[.int .i64 st, .int .i64 en, .int .i64 mo, .bool true, .bool la, .int .u8 sb, .int .u8 ro, .int .u8 we, .slice A hs.length c] 27)) wr) ∧ Hid (Below w3.heap.size w3 wr)) (fun i _ => N + 1 - (intOf i).toNat)
  case atStart => exact ⟨0, by omega, rfl, C3, Below.refl _ _⟩
  case round =>
    obtain ⟨k, hk, rfl, CR, DR⟩ := hrel
    obtain ⟨q0, q1, q2, q3, q4, q5, q6, q7, q8⟩ := row9S CR.out
    have BR := Lib.hid (btS (belE_c _ _) CR.out)
    by_cases hlt : k + 1 < N
    · obtain ⟨b, o, rfl, -, hcell⟩ := (K3.out.below DR.out).get (show k < LL.length by rw [HL.out]; omega)
      have d0 := hcell k (by rw [HL.out]; omega)
      have d1 := hcell (k + 1) (by rw [HL.out]; omega)
      have d2 := hcell (k + 1 + 1) (by rw [HL.out]; omega)
      obtain ⟨q, hq⟩ : ∃ q : Nat, q = N - (k + 1) := ⟨_, rfl⟩
      have d3 := hcell q (by rw [HL.out]; omega)
      have e3 := HV.out (k + 1) (by omega) hlt
      rw [← hq] at e3
      rw [e3] at d3
      have HQ : Hid ((N : Int) - ((k : Int) + 1) = (q : Int)) := by show _ = _; omega
      have hqN : (q : Int) < (N : Int) + 1 := by omega
      have hq0 : (0 : Int) ≤ (q : Int) := by omega
      have HC := Lib.hid (fun W hW => J3.out (k + 1) W (by omega) hlt hW)
      rw [show ((k + 1 : Nat) : Int) = (k : Int) + 1 by omega] at HC
      have l01 := HLT.out k (by omega)
      have l12 := HLT.out (k + 1) (by omega)
      have x01 : decide (LL.getD (k + 1) 0 ≤ LL.getD k 0) = false := decide_eq_false (by omega)
      have x12 : decide (LL.getD (k + 1 + 1) 0 ≤ LL.getD (k + 1) 0) = false := decide_eq_false (by omega)
      have hk1 : (k : Int) + 1 < (N : Int) := by omega
      have hk9 : (k : Int) ≤ 99 := by omega
      have g00 : (0 : Int) ≤ (k : Int) := by omega
      have e9 : (k : Int) + 1 - 1 = (k : Int) := by omega
      have g01 : (0 : Int) ≤ (k : Int) + 1 := by omega
      have g02 : (0 : Int) ≤ (k : Int) + 1 + 1 := by omega
      have u00 : (k : Int) < (N : Int) + 1 := by omega
      have u01 : (k : Int) + 1 < (N : Int) + 1 := by omega
      have u02 : (k : Int) + 1 + 1 < (N : Int) + 1 := by omega
      have hm0 : 0 ≤ ((k : Int) + 1) * mo := Int.mul_nonneg (by omega) (by omega)
      have hm1 : ((k : Int) + 1) * mo ≤ 120000 := by
        have := Int.mul_le_mul (show (k : Int) + 1 ≤ 100 by omega) m1 (by omega) (by omega)
        omega
      clear hcell l01 l12 J3 J1 HV HLT HZ0 HZN K3
      clear hq e3
      generalize LL.getD k 0 = x at *
      generalize LL.getD (k + 1) 0 = y at *
      generalize LL.getD (k + 1 + 1) 0 = z at *
      generalize v (k + 1) = u at *
      have hm2 : -((k : Int) + 1) * mo = -(((k : Int) + 1) * mo) := Int.neg_mul _ _
      have hm3 : -120000 ≤ -((k : Int) + 1) * mo := by omega
      have hm4 : -((k : Int) + 1) * mo ≤ 0 := by omega
      clear hm2 hm0 hm1
      go_wp2
      go_quiet (fail)
      have BQ := Lib.hid (below_dn BR.out nq)
      have CQ := Lib.hid (below_dn CR.out nq)
      have DQ := Lib.hid (below_dn DR.out nq)
      obtain ⟨W4, hW4⟩ : ∃ W4, wr.drewN nq = W4 := ⟨_, rfl⟩
      rw [hW4] at BQ CQ DQ
      have c0 : W4.cell? ⟨b, o + k, none⟩ = some (.int .i64 x) := by rw [← hW4]; exact d0
      have c1 : W4.cell? ⟨b, o + (k + 1), none⟩ = some (.int .i64 y) := by rw [← hW4]; exact d1
      have c2 : W4.cell? ⟨b, o + (k + 1 + 1), none⟩ = some (.int .i64 z) := by rw [← hW4]; exact d2
      have c3 : W4.cell? ⟨b, o + q, none⟩ = some (.int .i64 u) := by rw [← hW4]; exact d3
      clear d3
      rw [hW4]
      clear hW4 d0 d1 d2 q0 q1 q2 q3 q4 q5 q6 q7 q8 nq
      obtain ⟨q0, q1, q2, q3, q4, q5, q6, q7, q8⟩ := row9S CQ.out
      go_wp2
      go_quiet (fail)
      have BQ2 := Lib.hid (below_dn BQ.out nq)
      have CQ2 := Lib.hid (below_dn CQ.out nq)
      have DQ2 := Lib.hid (below_dn DQ.out nq)
      obtain ⟨W5, hW5⟩ : ∃ W5, W4.drewN nq = W5 := ⟨_, rfl⟩
      rw [hW5] at BQ2 CQ2 DQ2
      have g0 : W5.cell? ⟨b, o + k, none⟩ = some (.int .i64 x) := by rw [← hW5]; exact c0
      have g1 : W5.cell? ⟨b, o + (k + 1), none⟩ = some (.int .i64 y) := by rw [← hW5]; exact c1
      have g2 : W5.cell? ⟨b, o + (k + 1 + 1), none⟩ = some (.int .i64 z) := by rw [← hW5]; exact c2
      have g3 : W5.cell? ⟨b, o + q, none⟩ = some (.int .i64 u) := by rw [← hW5]; exact c3
      rw [hW5]
      clear hW5 c0 c1 c2 c3 q0 q1 q2 q3 q4 q5 q6 q7 q8 nq
      obtain ⟨q0, q1, q2, q3, q4, q5, q6, q7, q8⟩ := row9S CQ2.out
      rw [HQ.out]
      go_wp2_with (go_at_call 25; ((with_reducible refine (HC.out _ BQ2.out).mono ?_); rintro x5 w5 ⟨rfl, rfl⟩))
      go_quiet (fail)
      go_wp2
      go_roundw
      case rel => exact ⟨k + 1, by omega, by go_num, below_dn CQ2.out _, below_dn DQ2.out _⟩
      case measure => simp [intOf]; omega
    · obtain rfl : N = k + 1 := by omega
      obtain ⟨b, o, rfl, -, hcell⟩ := (K3.out.below DR.out).get (show 0 < LL.length by rw [HL.out]; omega)
      have d0 := hcell 0 (by rw [HL.out]; omega)
      have d1 := hcell (k + 1) (by rw [HL.out]; omega)
      rw [HZ0.out, Nat.add_zero] at d0
      rw [HZN.out] at d1
      have e1 : ((k + 1 : Nat) : Int) = (k : Int) + 1 := by omega
      have hlt' : ¬ (k : Int) + 1 < (k : Int) + 1 := by omega
      have g01 : (0 : Int) ≤ (k : Int) + 1 := by omega
      have g02 : (0 : Int) < (k : Int) + 1 + 1 := by omega
      have u01 : (k : Int) + 1 < (k : Int) + 1 + 1 := by omega
      rw [e1]
      clear hcell J3 J1 HV HLT HZ0 HZN K3 e1
      go_wp2
      go_quiet (fail)
      go_wp2
      go_ret
      exact ⟨ret_boolD (by simp), below_dn BR.out _⟩
end Go.Proofs.YtfheeipggedaiaaDoor

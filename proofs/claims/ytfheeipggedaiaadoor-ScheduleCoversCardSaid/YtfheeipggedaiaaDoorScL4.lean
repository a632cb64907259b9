/- Layer 6: the walks of the law ScheduleCovers, over what the program answers. -/
import Derived.Test.YtfheeipggedaiaaDoorScG
import Derived.Test.YtfheeipggedaiaaDoorScJ
import Derived.Test.YtfheeipggedaiaaDoorCalK
import Derived.BigQuiet
import Derived.Test.YtfheeipggedaiaaDoorScS
namespace Go.Proofs.YtfheeipggedaiaaDoor
open Go Go.RowKit

section
variable (st en mo : Int) (bk la : Bool) (sb ro we : Int) (A : Option Addr) (c : Nat) (hs : List Int)
set_option maxRecDepth 100000 in
set_option maxHeartbeats 3200000 in
theorem covers_great (w : World) (h : CalIn w we A c hs) (hg : grtB hs = true)
    (H0 : ∀ W, Below w.heap.size w W → Calls Tryd.prog 17 #[] W (BolS true W)) :
    Calls Tryd.prog 6 #[.agg #[.int .i64 st, .int .i64 en, .int .i64 mo, .bool bk, .bool la, .int .u8 sb, .int .u8 ro, .int .u8 we, .slice A hs.length c]] w fun e w' => e = .returned (.bool true) ∧ Below w.heap.size w w' := by
  have HG := Lib.hid (fun W (hb : Below w.heap.size w W) => great_anyC we A c hs true W (h.below hb) hg)
  have J0 := Lib.hid H0
  clear h hg H0
  go_enter Tryd.func6, Tryd.ntmps6
  go_wp2_with (first
    | (go_at_call 17; ((with_reducible refine (J0.out _ (belE_c _ _)).mono ?_); rintro x w1 ⟨rfl, b⟩; obtain ⟨q0, q1, q2, q3, q4, q5, q6, q7, q8⟩ := row9S b; have C1 := Lib.hid b; have B1 := Lib.hid (btS (belE_c _ _) b); clear b))
    | (go_at_call 18; ((with_reducible refine (HG.out _ B1.out).mono ?_); rintro x w2 ⟨rfl, b⟩; obtain ⟨q0, q1, q2, q3, q4, q5, q6, q7, q8⟩ := row9S (btS C1.out b); have C2 := Lib.hid (btS C1.out b); have B2 := Lib.hid (btS B1.out b); clear b)))
  go_ret
  exact ⟨ret_boolD (by simp), B2.out⟩
set_option maxRecDepth 100000 in
set_option maxHeartbeats 3200000 in
theorem covers_err (E : Int) (hE : (E != 0) = true) (w : World) (h : CalIn w we A c hs) (hg : grtB hs = false)
    (H0 : ∀ W, Below w.heap.size w W → Calls Tryd.prog 17 #[] W (BolS true W))
    (H1 : ∀ W, Below w.heap.size w W → Calls Tryd.prog 14 #[.agg #[.int .i64 st, .int .i64 en, .int .i64 mo, .bool bk, .bool la, .int .u8 sb, .int .u8 ro, .int .u8 we, .slice A hs.length c]] W (PrsP [] E W)) :
    Calls Tryd.prog 6 #[.agg #[.int .i64 st, .int .i64 en, .int .i64 mo, .bool bk, .bool la, .int .u8 sb, .int .u8 ro, .int .u8 we, .slice A hs.length c]] w fun e w' => e = .returned (.bool true) ∧ Below w.heap.size w w' := by
  have HG := Lib.hid (fun W (hb : Below w.heap.size w W) => great_anyC we A c hs false W (h.below hb) hg)
  have J0 := Lib.hid H0
  have J1 := Lib.hid H1
  clear h hg H0 H1
  go_enter Tryd.func6, Tryd.ntmps6
  go_wp2_with (first
    | (go_at_call 17; ((with_reducible refine (J0.out _ (belE_c _ _)).mono ?_); rintro x w1 ⟨rfl, b⟩; obtain ⟨q0, q1, q2, q3, q4, q5, q6, q7, q8⟩ := row9S b; have C1 := Lib.hid b; have B1 := Lib.hid (btS (belE_c _ _) b); clear b))
    | (go_at_call 18; ((with_reducible refine (HG.out _ B1.out).mono ?_); rintro x w2 ⟨rfl, b⟩; obtain ⟨q0, q1, q2, q3, q4, q5, q6, q7, q8⟩ := row9S (btS C1.out b); have C2 := Lib.hid (btS C1.out b); have B2 := Lib.hid (btS B1.out b); clear b))
    | (go_at_call 14; ((with_reducible refine (J1.out _ B2.out).mono ?_); rintro x w3 ⟨A3, c3, rfl, h3, -, -, -, b⟩; obtain ⟨q0, q1, q2, q3, q4, q5, q6, q7, q8⟩ := row9S (btS C2.out b); have C3 := Lib.hid (btS C2.out b); have B3 := Lib.hid (btS B2.out b); have K3 := Lib.hid h3; clear b h3)))
  go_ret
  exact ⟨ret_boolD (by simp), B3.out⟩
set_option maxRecDepth 100000 in
set_option maxHeartbeats 3200000 in
theorem covers_ok (F v : Nat → Int) (M : Nat) (n1 : M ≤ 98) (PL : List Per) (hl : PL.length = M + 1) (hP : ∀ j, j < M + 1 → PL.getD j (0, 0, 0, 0) = (F j, F (j + 1), v j, v (j + 1))) (h0 : F 0 = st) (hN : F (M + 1) = en) (hlt : ∀ j, j < M + 1 → F j < F (j + 1)) (hle : ∀ j, j < M + 1 → v j ≤ v (j + 1)) (w : World) (h : CalIn w we A c hs) (hg : grtB hs = false)
    (H0 : ∀ W, Below w.heap.size w W → Calls Tryd.prog 17 #[] W (BolS true W))
    (H1 : ∀ W, Below w.heap.size w W → Calls Tryd.prog 14 #[.agg #[.int .i64 st, .int .i64 en, .int .i64 mo, .bool bk, .bool la, .int .u8 sb, .int .u8 ro, .int .u8 we, .slice A hs.length c]] W (PrsP PL 0 W))
    (H2 : ∀ (j : Nat) W, j ≤ M + 1 → Below w.heap.size w W → Calls Tryd.prog 24 #[.agg #[.int .u8 we, .slice A hs.length c], .int .i64 (F j), .int .u8 ro] W fun x w' => x = .returned (.tuple #[.int .i64 (v j), .int .i64 0]) ∧ Below W.heap.size W w') :
    Calls Tryd.prog 6 #[.agg #[.int .i64 st, .int .i64 en, .int .i64 mo, .bool bk, .bool la, .int .u8 sb, .int .u8 ro, .int .u8 we, .slice A hs.length c]] w fun e w' => e = .returned (.bool true) ∧ Below w.heap.size w w' := by
  have HG := Lib.hid (fun W (hb : Below w.heap.size w W) => great_anyC we A c hs false W (h.below hb) hg)
  have J0 := Lib.hid H0
  have J1 := Lib.hid H1
  have J2 := Lib.hid H2
  unfold PrsP at J1
  rw [hl] at J1
  have HL := Lib.hid hl
  have HP := Lib.hid hP
  have HZ0 := Lib.hid h0
  have HZN := Lib.hid hN
  have HLT := Lib.hid hlt
  have HLE := Lib.hid hle
  have eM : ((M + 1 : Nat) : Int) = (M : Int) + 1 := by omega
  clear h hg H0 H1 H2 hl hP h0 hN hlt hle
  go_enter Tryd.func6, Tryd.ntmps6
  go_wp2_with (first
    | (go_at_call 17; ((with_reducible refine (J0.out _ (belE_c _ _)).mono ?_); rintro x w1 ⟨rfl, b⟩; obtain ⟨q0, q1, q2, q3, q4, q5, q6, q7, q8⟩ := row9S b; have C1 := Lib.hid b; have B1 := Lib.hid (btS (belE_c _ _) b); clear b))
    | (go_at_call 18; ((with_reducible refine (HG.out _ B1.out).mono ?_); rintro x w2 ⟨rfl, b⟩; obtain ⟨q0, q1, q2, q3, q4, q5, q6, q7, q8⟩ := row9S (btS C1.out b); have C2 := Lib.hid (btS C1.out b); have B2 := Lib.hid (btS B1.out b); clear b))
    | (go_at_call 14; ((with_reducible refine (J1.out _ B2.out).mono ?_); rintro x w3 ⟨A3, c3, rfl, h3, -, -, -, b⟩; obtain ⟨q0, q1, q2, q3, q4, q5, q6, q7, q8⟩ := row9S (btS C2.out b); have C3 := Lib.hid (btS C2.out b); have B3 := Lib.hid (btS B2.out b); have K3 := Lib.hid h3; clear b h3)))
  have K3c := Lib.hid K3.out
  obtain ⟨b, rfl, -, hcell⟩ := K3.out.get (show 0 < PL.length by rw [HL.out]; omega)
  obtain ⟨e0, -, -, -⟩ := hcell 0 (by rw [HL.out]; omega)
  obtain ⟨-, e1, -, -⟩ := hcell M (by rw [HL.out]; omega)
  rw [HP.out 0 (by omega), show 0 * 4 = 0 from rfl] at e0
  rw [HP.out M (by omega)] at e1
  simp only at e0 e1
  rw [HZ0.out] at e0
  rw [HZN.out] at e1
  have x01 : decide ((M : Int) + 1 < 1) = false := decide_eq_false (by omega)
  have x02 : decide ((99 : Int) < (M : Int) + 1) = false := decide_eq_false (by omega)
  have g00 : (0 : Int) ≤ (M : Int) := by omega
  have u00 : (0 : Int) < (M : Int) + 1 := by omega
  have u01 : (M : Int) < (M : Int) + 1 := by omega
  have e9 : (M : Int) + 1 - 1 = (M : Int) := by omega
  clear hcell HZ0 HZN
  go_quiet (fail)
  have B4 := Lib.hid (below_dn B3.out nq)
  have C4 := Lib.hid (below_dn C3.out nq)
  have D4 := Lib.hid (below_dn (Below.refl w3.heap.size w3) nq)
  obtain ⟨W4, hW4⟩ : ∃ W4, w3.drewN nq = W4 := ⟨_, rfl⟩
  rw [hW4] at B4 C4 D4
  rw [hW4]
  clear hW4 nq x01 x02 e0 e1 q0 q1 q2 q3 q4 q5 q6 q7 q8 g00 u00 u01 e9
  go_wp2
  go_loopw [6] (fun i wr => ∃ k : Nat, k ≤ M + 1 ∧ i = .int .i64 k ∧ Hid (Below (w.alloc (.cells #[.int .i64 st, .int .i64 en, .int .i64 mo, .bool bk, .bool la, .int .u8 sb, .int .u8 ro, .int .u8 we, .slice A hs.length c] 27)).heap.size (w.alloc (.cells #[.int .i64 st, .int .i64 en, .int .i64 mo, .bool bk, .bool la, .int .u8 sb, .int .u8 ro, .int .u8 we, .slice A hs.length c] 27)) wr) ∧ Hid (Below w3.heap.size w3 wr)) (fun i _ => M + 1 - (intOf i).toNat)
  case atStart => exact ⟨0, by omega, rfl, C4, D4⟩
  case round =>
    obtain ⟨k, hk, rfl, CR, DR⟩ := hrel
    obtain ⟨q0, q1, q2, q3, q4, q5, q6, q7, q8⟩ := row9S CR.out
    have BR := Lib.hid (btS (belE_c _ _) CR.out)
    by_cases hlt : k < M + 1
    · cases k with
      | zero =>
        have HCE := Lib.hid (fun (W : World) (h : Below w3.heap.size w3 W) => (K3.out.below h))
        obtain ⟨b', eb, -, hcell⟩ := (K3.out.below DR.out).get (show 0 < PL.length by rw [HL.out]; omega)
        obtain rfl : b = b' := by injection eb with eb; injection eb
        clear eb
        obtain ⟨e0, e1, e2, e3⟩ := hcell 0 (by rw [HL.out]; omega)
        rw [HP.out 0 (by omega)] at e0 e1 e2 e3
        rw [show 0 * 4 = 0 from rfl] at e0 e1 e2 e3
        rw [Nat.zero_add] at e1 e2 e3
        have HC0 := Lib.hid (fun W hW => J2.out 0 W (by omega) hW)
        have HC1 := Lib.hid (fun W hW => J2.out (0 + 1) W (by omega) hW)
        have l01 := HLT.out 0 (by omega)
        have l02 := HLE.out 0 (by omega)
        have x01 : decide (F (0 + 1) ≤ F 0) = false := decide_eq_false (by omega)
        have x02 : decide (v (0 + 1) < v 0) = false := decide_eq_false (by omega)
        simp only at e0 e1 e2 e3
        clear hcell l01 l02 J2 HLT HLE HP K3
        generalize F 0 = x at *
        generalize F (0 + 1) = y at *
        generalize v 0 = s at *
        generalize v (0 + 1) = t at *
        have E0 := Lib.hid (Below.drew BR.out)
        have u00 : (0 : Int) < (M : Int) + 1 := by omega
        go_wp2
        go_region_held3 (fun w' => w'.cell? ⟨w.heap.size, 6, none⟩ = some (.int .u8 ro) ∧ w'.cell? ⟨w.heap.size, 7, none⟩ = some (.int .u8 we) ∧ w'.cell? ⟨w.heap.size, 8, none⟩ = some (.slice A hs.length c) ∧ w'.cell? ⟨b, 0, none⟩ = some (.int .i64 x))
          (((try go_split_ands); (and_intros) <;> first | assumption | (refine (b4.cell ?_).trans ?_; exact (World.block_lt_of_cell? _ _ (by assumption)); assumption) | (go_keep; done)))
          (first
            | (go_split_ands; go_at_call 24; refine (HC0.out _ E0.out).mono ?_; rintro z w4 ⟨rfl, b4⟩))
        have DR4 := Lib.hid (btS (Below.drew DR.out) b4)
        have CR4 := Lib.hid (btS (Below.drew CR.out) b4)
        have BR4 := Lib.hid (btS (belE_c _ _) CR4.out)
        have E4 := Lib.hid (Below.drew BR4.out)
        have c0 := cellS (Below.drewB b4) e0
        have c1 := cellS (Below.drewB b4) e1
        have c2 := cellS (Below.drewB b4) e2
        have c3 := cellS (Below.drewB b4) e3
        clear q0 q1 q2 q3 q4 q5 q6 q7 q8 e0 e1 e2 e3 b4
        obtain ⟨q0, q1, q2, q3, q4, q5, q6, q7, q8⟩ := row9S CR4.out
        go_wp2
        go_region_held3 (fun w' => w'.cell? ⟨w.heap.size, 6, none⟩ = some (.int .u8 ro) ∧ w'.cell? ⟨w.heap.size, 7, none⟩ = some (.int .u8 we) ∧ w'.cell? ⟨w.heap.size, 8, none⟩ = some (.slice A hs.length c) ∧ w'.cell? ⟨b, 1, none⟩ = some (.int .i64 y))
          (((try go_split_ands); (and_intros) <;> first | assumption | (refine (b5.cell ?_).trans ?_; exact (World.block_lt_of_cell? _ _ (by assumption)); assumption) | (go_keep; done)))
          (first
            | (go_split_ands; go_at_call 24; refine (HC1.out _ E4.out).mono ?_; rintro z w5 ⟨rfl, b5⟩))
        have DR5 := Lib.hid (btS (Below.drew DR4.out) b5)
        have CR5 := Lib.hid (btS (Below.drew CR4.out) b5)
        have BR5 := Lib.hid (btS (belE_c _ _) CR5.out)
        have e0 := cellS (Below.drewB b5) c0
        have e1 := cellS (Below.drewB b5) c1
        have e2 := cellS (Below.drewB b5) c2
        have e3 := cellS (Below.drewB b5) c3
        clear q0 q1 q2 q3 q4 q5 q6 q7 q8 c0 c1 c2 c3 b5
        obtain ⟨q0, q1, q2, q3, q4, q5, q6, q7, q8⟩ := row9S CR5.out
        go_wp2
        go_quiet (fail)
        have DR6 := Lib.hid (below_dn DR5.out nq)
        have CR6 := Lib.hid (below_dn CR5.out nq)
        obtain ⟨W6, hW6⟩ : ∃ W6, w5.drewN nq = W6 := ⟨_, rfl⟩
        have c0 : W6.cell? ⟨b, 0, none⟩ = some (.int .i64 x) := by rw [← hW6]; exact e0
        have c2 : W6.cell? ⟨b, 2, none⟩ = some (.int .i64 s) := by rw [← hW6]; exact e2
        rw [hW6] at CR6 DR6
        rw [hW6]
        clear hW6 q0 q1 q2 q3 q4 q5 q6 q7 q8 e0 e1 e2 e3 nq
        go_wp2
        go_quiet (fail)
        go_wp2
        go_roundw
        case rel => exact ⟨1, by omega, by go_num, below_dn CR6.out _, below_dn DR6.out _⟩
        case measure => first | (simp [intOf]; done) | (simp [intOf]; omega)
      | succ k =>
        have ek : ((k + 1 : Nat) : Int) = (k : Int) + 1 := by omega
        rw [ek]
        have HCE := Lib.hid (fun (W : World) (h : Below w3.heap.size w3 W) => (K3.out.below h))
        obtain ⟨b', eb, -, hcell⟩ := (K3.out.below DR.out).get (show (k + 1) < PL.length by rw [HL.out]; omega)
        obtain rfl : b = b' := by injection eb with eb; injection eb
        clear eb
        obtain ⟨e0, e1, e2, e3⟩ := hcell (k + 1) (by rw [HL.out]; omega)
        rw [HP.out (k + 1) (by omega)] at e0 e1 e2 e3
        obtain ⟨-, p1, -, p3⟩ := hcell k (by rw [HL.out]; omega)
        rw [HP.out k (by omega)] at p1 p3
        have HC0 := Lib.hid (fun W hW => J2.out (k + 1) W (by omega) hW)
        have HC1 := Lib.hid (fun W hW => J2.out ((k + 1) + 1) W (by omega) hW)
        have l01 := HLT.out (k + 1) (by omega)
        have l02 := HLE.out (k + 1) (by omega)
        have x01 : decide (F ((k + 1) + 1) ≤ F (k + 1)) = false := decide_eq_false (by omega)
        have x02 : decide (v ((k + 1) + 1) < v (k + 1)) = false := decide_eq_false (by omega)
        simp only at e0 e1 e2 e3 p1 p3
        clear hcell l01 l02 J2 HLT HLE HP K3
        generalize F (k + 1) = x at *
        generalize F ((k + 1) + 1) = y at *
        generalize v (k + 1) = s at *
        generalize v ((k + 1) + 1) = t at *
        have E0 := Lib.hid (Below.drew BR.out)
        have g01 : (0 : Int) ≤ (k : Int) + 1 := by omega
        have g00 : (0 : Int) ≤ (k : Int) := by omega
        have u01 : (k : Int) + 1 < (M : Int) + 1 := by omega
        have u00 : (k : Int) < (M : Int) + 1 := by omega
        have e9 : (k : Int) + 1 - 1 = (k : Int) := by omega
        have z01 : decide ((0 : Int) < (k : Int) + 1) = true := decide_eq_true (by omega)
        go_wp2
        go_region_held3 (fun w' => w'.cell? ⟨w.heap.size, 6, none⟩ = some (.int .u8 ro) ∧ w'.cell? ⟨w.heap.size, 7, none⟩ = some (.int .u8 we) ∧ w'.cell? ⟨w.heap.size, 8, none⟩ = some (.slice A hs.length c) ∧ w'.cell? ⟨b, (k + 1) * 4, none⟩ = some (.int .i64 x))
          (((try go_split_ands); (and_intros) <;> first | assumption | (refine (b4.cell ?_).trans ?_; exact (World.block_lt_of_cell? _ _ (by assumption)); assumption) | (go_keep; done)))
          (first
            | (go_split_ands; go_at_call 24; refine (HC0.out _ E0.out).mono ?_; rintro z w4 ⟨rfl, b4⟩))
        have DR4 := Lib.hid (btS (Below.drew DR.out) b4)
        have CR4 := Lib.hid (btS (Below.drew CR.out) b4)
        have BR4 := Lib.hid (btS (belE_c _ _) CR4.out)
        have E4 := Lib.hid (Below.drew BR4.out)
        have c0 := cellS (Below.drewB b4) e0
        have c1 := cellS (Below.drewB b4) e1
        have c2 := cellS (Below.drewB b4) e2
        have c3 := cellS (Below.drewB b4) e3
        have r1 := cellS (Below.drewB b4) p1
        have r3 := cellS (Below.drewB b4) p3
        clear q0 q1 q2 q3 q4 q5 q6 q7 q8 e0 e1 e2 e3 b4 p1 p3
        obtain ⟨q0, q1, q2, q3, q4, q5, q6, q7, q8⟩ := row9S CR4.out
        go_wp2
        go_region_held3 (fun w' => w'.cell? ⟨w.heap.size, 6, none⟩ = some (.int .u8 ro) ∧ w'.cell? ⟨w.heap.size, 7, none⟩ = some (.int .u8 we) ∧ w'.cell? ⟨w.heap.size, 8, none⟩ = some (.slice A hs.length c) ∧ w'.cell? ⟨b, (k + 1) * 4 + 1, none⟩ = some (.int .i64 y))
          (((try go_split_ands); (and_intros) <;> first | assumption | (refine (b5.cell ?_).trans ?_; exact (World.block_lt_of_cell? _ _ (by assumption)); assumption) | (go_keep; done)))
          (first
            | (go_split_ands; go_at_call 24; refine (HC1.out _ E4.out).mono ?_; rintro z w5 ⟨rfl, b5⟩))
        have DR5 := Lib.hid (btS (Below.drew DR4.out) b5)
        have CR5 := Lib.hid (btS (Below.drew CR4.out) b5)
        have BR5 := Lib.hid (btS (belE_c _ _) CR5.out)
        have e0 := cellS (Below.drewB b5) c0
        have e1 := cellS (Below.drewB b5) c1
        have e2 := cellS (Below.drewB b5) c2
        have e3 := cellS (Below.drewB b5) c3
        have p1 := cellS (Below.drewB b5) r1
        have p3 := cellS (Below.drewB b5) r3
        clear q0 q1 q2 q3 q4 q5 q6 q7 q8 c0 c1 c2 c3 b5 r1 r3
        obtain ⟨q0, q1, q2, q3, q4, q5, q6, q7, q8⟩ := row9S CR5.out
        go_wp2
        go_quiet (fail)
        have DR6 := Lib.hid (below_dn DR5.out nq)
        have CR6 := Lib.hid (below_dn CR5.out nq)
        obtain ⟨W6, hW6⟩ : ∃ W6, w5.drewN nq = W6 := ⟨_, rfl⟩
        have c0 : W6.cell? ⟨b, (k + 1) * 4, none⟩ = some (.int .i64 x) := by rw [← hW6]; exact e0
        have c2 : W6.cell? ⟨b, (k + 1) * 4 + 2, none⟩ = some (.int .i64 s) := by rw [← hW6]; exact e2
        have r1 : W6.cell? ⟨b, k * 4 + 1, none⟩ = some (.int .i64 x) := by rw [← hW6]; exact p1
        have r3 : W6.cell? ⟨b, k * 4 + 3, none⟩ = some (.int .i64 s) := by rw [← hW6]; exact p3
        rw [hW6] at CR6 DR6
        rw [hW6]
        clear hW6 q0 q1 q2 q3 q4 q5 q6 q7 q8 e0 e1 e2 e3 nq p1 p3
        go_wp2
        go_quiet (fail)
        go_wp2
        go_roundw
        case rel => exact ⟨k + 1 + 1, by omega, by go_num, below_dn CR6.out _, below_dn DR6.out _⟩
        case measure => first | (simp [intOf]; done) | (simp [intOf]; omega)
    · obtain rfl : k = M + 1 := by omega
      rw [eM]
      go_wp2
      go_ret
      exact ⟨rfl, BR.out⟩
end
end Go.Proofs.YtfheeipggedaiaaDoor

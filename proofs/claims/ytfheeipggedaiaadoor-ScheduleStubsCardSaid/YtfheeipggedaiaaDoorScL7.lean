/- Layer 6: the walks of the law ScheduleStubs where a long stub joins. -/
import Derived.Test.YtfheeipggedaiaaDoorScL5
namespace Go.Proofs.YtfheeipggedaiaaDoor
open Go Go.RowKit

theorem take_succS (l : List Int) {k : Nat} (h : k < l.length) : l.take (k + 1) = l.take k ++ [l.getD k 0] := by
  rw [List.take_add_one, List.getD_eq_getElem?_getD, List.getElem?_eq_getElem h]; rfl
theorem er_same {l : List Int} {x : Int} {t : Nat} (h : l.length = t) : (l ++ [x]).eraseIdx t = l.eraseIdx t := by
  subst h
  rw [List.eraseIdx_append_of_length_le (Nat.le_refl _), Nat.sub_self, List.eraseIdx_of_length_le (Nat.le_refl _)]
  simp
theorem er_snoc {l : List Int} {x : Int} {t : Nat} (h : l.length ≠ t) : (l ++ [x]).eraseIdx t = l.eraseIdx t ++ [x] := by
  rcases Nat.lt_or_ge t l.length with g | g
  · rw [List.eraseIdx_append_of_lt_length g]
  · rw [List.eraseIdx_append_of_length_le g, List.eraseIdx_of_length_le g, List.eraseIdx_of_length_le (l := [x]) (by simp; omega)]
theorem er_len (l : List Int) (t : Nat) : (l.eraseIdx t).length ≤ l.length := List.length_eraseIdx_le ..
set_option maxRecDepth 100000 in
set_option maxHeartbeats 3200000 in
theorem stubs_diff0 (st en mo : Int) (la : Bool) (sb ro we : Int) (A : Option Addr) (c : Nat) (hs : List Int) (R : Nat) (hR : R ≤ 98) (V e : Int) (LA LB : List Int) (hla : LA.length = R + 2) (hR1 : 1 ≤ R) (hab : LB = LA.eraseIdx R) (hlb : LB.length = R + 1) (hc : (e == 0) = false ∨ e = 0 ∧ (V == en) = false) (m0 : 1 ≤ mo) (m1 : mo ≤ 1200) (w : World) (h : CalIn w we A c hs) (hg : grtB hs = false)
    (H0 : ∀ W, Below w.heap.size w W → Calls Tryd.prog 17 #[] W (BolS true W))
    (H1 : ∀ W, Below w.heap.size w W → Calls Tryd.prog 11 #[.agg #[.int .i64 st, .int .i64 en, .int .i64 mo, .bool false, .bool la, .int .u8 0, .int .u8 ro, .int .u8 we, .slice A hs.length c]] W (DtsR LA 0 W))
    (H2 : ∀ W, Below w.heap.size w W → Calls Tryd.prog 11 #[.agg #[.int .i64 st, .int .i64 en, .int .i64 mo, .bool false, .bool la, .int .u8 1, .int .u8 ro, .int .u8 we, .slice A hs.length c]] W (DtsR LB 0 W))
    (H3 : ∀ W, Below w.heap.size w W → Calls Tryd.prog 25 #[.int .i64 st, .int .i64 (((R : Int) + 1) * mo), .bool la] W fun x w' => x = .returned (.tuple #[.int .i64 V, .int .i64 e]) ∧ W = w') :
    Calls Tryd.prog 8 #[.agg #[.int .i64 st, .int .i64 en, .int .i64 mo, .bool false, .bool la, .int .u8 sb, .int .u8 ro, .int .u8 we, .slice A hs.length c]] w fun e w' => e = .returned (.bool true) ∧ Below w.heap.size w w' := by
  have HG := Lib.hid (fun W (hb : Below w.heap.size w W) => great_anyC we A c hs false W (h.below hb) hg)
  have J0 := Lib.hid H0
  have J1 := Lib.hid H1
  have J2 := Lib.hid H2
  have J3 := Lib.hid H3
  unfold DtsR at J1 J2
  rw [hla] at J1
  have HLA := Lib.hid hla
  have hm0 : 0 ≤ ((R : Int) + 1) * mo := Int.mul_nonneg (by omega) (by omega)
  have hm1 : ((R : Int) + 1) * mo ≤ 120000 := by
    have := Int.mul_le_mul (show (R : Int) + 1 ≤ 100 by omega) m1 (by omega) (by omega)
    omega
  have hR9 : (R : Int) ≤ 98 := by omega
  have hR0 : (0 : Int) ≤ (R : Int) := by omega
  clear h hg H0 H1 H2 H3 hla
  have HSM := Lib.hid (fun A B c c' W (hA : HsA W A LB) (hB : HsA W B LB) => sameInts_any A B c c' LB LB true (by simp) (by have := hlb; omega) W hA hB)
  rw [hlb] at J2 HSM
  have HAB := Lib.hid hab
  have HLB := Lib.hid hlb
  obtain ⟨i0, hi0, hz0, hz1, hz2⟩ := info_parts infoS
  have hRz : ((R : Int) == 0) = false := by rw [beq_eq_false_iff_ne]; omega
  clear hab hlb
  rcases hc with hc | ⟨rfl, hc⟩
  all_goals
    go_enter Tryd.func8, Tryd.ntmps8
    go_wp2_with (first
      | (go_at_call 17; ((with_reducible refine (J0.out _ (belE_c _ _)).mono ?_); rintro x w1 ⟨rfl, b⟩; obtain ⟨q0, q1, q2, q3, q4, q5, q6, q7, q8⟩ := row9S b; have C1 := Lib.hid b; have B1 := Lib.hid (btS (belE_c _ _) b); clear b))
      | (go_at_call 18; ((with_reducible refine (HG.out _ B1.out).mono ?_); rintro x w2 ⟨rfl, b⟩; obtain ⟨q0, q1, q2, q3, q4, q5, q6, q7, q8⟩ := row9S (btS C1.out b); have C2 := Lib.hid (btS C1.out b); have B2 := Lib.hid (btS B1.out b); clear b)))
    have hlt0 : w.heap.size < w2.heap.size := by have := C2.out.size; simp at this; omega
    have hlt1 : w.heap.size < w2.heap.size + 1 := by omega
    have BX1 : Hid (Below w.heap.size w ((w2.alloc (.cells #[.int .i64 st, .int .i64 en, .int .i64 mo, .bool false, .bool la, .int .u8 0, .int .u8 ro, .int .u8 we, .slice A hs.length c] 27)).alloc (.cells #[.int .i64 st, .int .i64 en, .int .i64 mo, .bool false, .bool la, .int .u8 1, .int .u8 ro, .int .u8 we, .slice A hs.length c] 27)).drew) := Below.drew (btS (btS B2.out (belE_c _ _)) (belE_c _ _))
    have BX2 : Hid (Below w.heap.size w ((w2.alloc (.cells #[.int .i64 st, .int .i64 en, .int .i64 mo, .bool false, .bool la, .int .u8 1, .int .u8 ro, .int .u8 we, .slice A hs.length c] 27)).alloc (.cells #[.int .i64 st, .int .i64 en, .int .i64 mo, .bool false, .bool la, .int .u8 0, .int .u8 ro, .int .u8 we, .slice A hs.length c] 27)).drew) := Below.drew (btS (btS B2.out (belE_c _ _)) (belE_c _ _))
    go_region_held3 (fun w' => w'.cell? ⟨w.heap.size, 0, none⟩ = some (.int .i64 st) ∧ w'.cell? ⟨w.heap.size, 1, none⟩ = some (.int .i64 en) ∧ w'.cell? ⟨w.heap.size, 2, none⟩ = some (.int .i64 mo) ∧ w'.cell? ⟨w.heap.size, 3, none⟩ = some (.bool false) ∧ w'.cell? ⟨w.heap.size, 4, none⟩ = some (.bool la) ∧ w'.cell? ⟨w.heap.size, 5, none⟩ = some (.int .u8 sb) ∧ w'.cell? ⟨w.heap.size, 6, none⟩ = some (.int .u8 ro) ∧ w'.cell? ⟨w.heap.size, 7, none⟩ = some (.int .u8 we) ∧ w'.cell? ⟨w.heap.size, 8, none⟩ = some (.slice A hs.length c))
      (((try go_split_ands); (and_intros) <;> first | assumption | (go_keep; done)))
      (first | fail)
    all_goals
      go_wp2_with (first
        | (go_at_call 11; ((with_reducible refine (J1.out _ BX1.out).mono ?_); rintro x w3 ⟨A3, c3, rfl, h3, -, -, -, b⟩; obtain ⟨p0, p1, p2, p3, p4, p5, p6, p7, p8⟩ := (show _ from (by simpa using row9S (w := w2.alloc (.cells #[.int .i64 st, .int .i64 en, .int .i64 mo, .bool false, .bool la, .int .u8 0, .int .u8 ro, .int .u8 we, .slice A hs.length c] 27)) (Below.drewB b)) : w3.cell? ⟨w2.heap.size + 1, 0, none⟩ = some (.int .i64 st) ∧ w3.cell? ⟨w2.heap.size + 1, 1, none⟩ = some (.int .i64 en) ∧ w3.cell? ⟨w2.heap.size + 1, 2, none⟩ = some (.int .i64 mo) ∧ w3.cell? ⟨w2.heap.size + 1, 3, none⟩ = some (.bool false) ∧ w3.cell? ⟨w2.heap.size + 1, 4, none⟩ = some (.bool la) ∧ w3.cell? ⟨w2.heap.size + 1, 5, none⟩ = some (.int .u8 1) ∧ w3.cell? ⟨w2.heap.size + 1, 6, none⟩ = some (.int .u8 ro) ∧ w3.cell? ⟨w2.heap.size + 1, 7, none⟩ = some (.int .u8 we) ∧ w3.cell? ⟨w2.heap.size + 1, 8, none⟩ = some (.slice A hs.length c)); have C3 := Lib.hid (btS (Below.drew (btS (btS C2.out (belE_c _ _)) (belE_c _ _))) b); have B3 := Lib.hid (btS (belE_c _ _) C3.out); have K3 := Lib.hid h3; clear b h3))
        | (go_at_call 11; ((with_reducible refine (J1.out _ BX2.out).mono ?_); rintro x w3 ⟨A3, c3, rfl, h3, -, -, -, b⟩; obtain ⟨p0, p1, p2, p3, p4, p5, p6, p7, p8⟩ := row9S (w := w2) (btS (belE_c _ _) (Below.drewB b)); have C3 := Lib.hid (btS (Below.drew (btS (btS C2.out (belE_c _ _)) (belE_c _ _))) b); have B3 := Lib.hid (btS (belE_c _ _) C3.out); have K3 := Lib.hid h3; clear b h3))
        | (go_at_call 11; ((with_reducible refine (J2.out _ B3.out).mono ?_); rintro x w4 ⟨A4, c4, rfl, h4, -, -, -, b⟩; obtain ⟨q0, q1, q2, q3, q4, q5, q6, q7, q8⟩ := row9S (btS C3.out b); have C4 := Lib.hid (btS C3.out b); have B4 := Lib.hid (btS B3.out b); have K4 := Lib.hid h4; have K3b := Lib.hid (K3.out.below b); clear b h4 p0 p1 p2 p3 p4 p5 p6 p7 p8)))
      go_quiet (fail)
      have C5 := Lib.hid (below_dn C4.out nq)
      have M5 := Lib.hid (below_dn (Below.refl w4.heap.size w4) nq)
      obtain ⟨W5, hW5⟩ : ∃ W5, w4.drewN nq = W5 := ⟨_, rfl⟩
      rw [hW5] at C5 M5
      rw [hW5]
      clear hW5 nq q0 q1 q2 q3 q4 q5 q6 q7 q8
      obtain ⟨q0, q1, q2, q3, q4, q5, q6, q7, q8⟩ := row9S C5.out
      have C6 := C5
      have M6 := M5
      have B6 := Lib.hid (btS (belE_c _ _) C6.out)
      have N3 := Lib.hid (K3b.out.below M6.out)
      have N4 := Lib.hid (K4.out.below M6.out)
      go_wp2_with (first
        | (go_at_call 25; ((with_reducible refine (J3.out _ B6.out).mono ?_); rintro x7 w7 ⟨rfl, rfl⟩)))
      clear q0 q1 q2 q3 q4 q5 q6 q7 q8
      go_loopw [17, 18] (fun v i wr => ∃ (k : Nat) (u : Value), k ≤ R + 2 ∧ v = u ∧ i = .int .i64 k ∧ Hid (wr.ownsRow W5.heap.size 3 1 u ((LA.take k).eraseIdx R).length (((LA.take k).eraseIdx R).map encS)) ∧ Hid (Below W5.heap.size W5 wr)) (fun _ i _ => R + 2 - (intOf i).toNat)
      case atStart => exact ⟨0, _, by omega, rfl, rfl, by simpa [Hid] using World.ownsRow_nil _ _ _ _, Below.refl _ _⟩
      case round =>
        obtain ⟨k, u, hk, rfl, rfl, HO, HW⟩ := hrel
        obtain ⟨A9, c9, rfl, -, -, -, -, -⟩ := of_ownS HO.out
        have BW := Lib.hid (btS B6.out HW.out)
        by_cases hlt : k < R + 2
        · obtain ⟨b, o, rfl, -, hcell⟩ := (N3.out.below HW.out).get (show k < LA.length by rw [HLA.out]; exact hlt)
          have d0 := hcell k (by rw [HLA.out]; exact hlt)
          have hlk : (k : Int) < (R : Int) + 2 := by omega
          have htk := take_succS LA (show k < LA.length by rw [HLA.out]; exact hlt)
          by_cases hka : k = R
          · have HX : Hid ((LA.take (k + 1)).eraseIdx R = (LA.take k).eraseIdx R) := by
              show _ = _
              rw [htk]
              exact er_same (by rw [List.length_take, HLA.out]; omega)
            have hkz : ((k : Int) != ((R : Nat) : Int)) = false := by rw [hka]; simp
            have hkz2 : ((k : Int) == ((R : Nat) : Int)) = true := by rw [hka]; simp
            clear hka hcell htk
            go_wp2
            go_roundw
            case rel => exact ⟨k + 1, _, by omega, rfl, by go_num, by rw [HX.out]; exact HO.out, HW⟩
            case measure => simp [intOf]; omega
          · have HX : Hid ((LA.take (k + 1)).eraseIdx R = (LA.take k).eraseIdx R ++ [LA.getD k 0]) := by
              show _ = _
              rw [htk]
              exact er_snoc (by rw [List.length_take, HLA.out]; omega)
            have HXL : Hid (((LA.take (k + 1)).eraseIdx R).length = ((LA.take k).eraseIdx R).length + 1) := by show _ = _; rw [HX.out]; simp
            have hkz : ((k : Int) != ((R : Nat) : Int)) = true := by rw [bne_iff_ne]; omega
            have hkz2 : ((k : Int) == ((R : Nat) : Int)) = false := by rw [beq_eq_false_iff_ne]; omega
            have hlE : ((LA.take k).eraseIdx R).length ≤ 200 := by
              have := er_len (LA.take k) R
              rw [List.length_take] at this
              omega
            have hsz := HW.out.size
            clear hka hcell htk
            generalize LA.getD k 0 = x at *
            generalize (LA.take k).eraseIdx R = E1 at *
            go_wp2_with (at_builtin; refine wpList_appS1 HO.out _ rfl _ _ 23 rfl i0 (.int .i64 0) 8 Tryd.underlying23 hi0 hz0 hz1 hz2 rfl rfl rfl rfl (by unfold maxLen; omega) (by omega) hsz ?_; intro v' w9 hown hb; have O9 := Lib.hid hown; have W9 := Lib.hid (HW.out.trans hb); clear hown hb)
            go_roundw
            case rel => exact ⟨k + 1, _, by omega, rfl, by go_num, by rw [HXL.out, HX.out, List.map_append]; exact O9.out, W9⟩
            case measure => simp [intOf]; omega
        · obtain rfl : k = R + 2 := by omega
          have HF : Hid ((LA.take (R + 2)).eraseIdx R = LB) := by
            show _ = _
            rw [HAB.out, List.take_of_length_le (by rw [HLA.out]; exact Nat.le_refl _)]
          have HOF := Lib.hid (show wr.ownsRow W5.heap.size 3 1 (.slice A9 LB.length c9) LB.length (LB.map encS) by have := HO.out; rw [HF.out] at this; exact this)
          rw [HF.out, HLB.out]
          obtain ⟨A8, c8, e8, -, h8, -, -, -⟩ := of_ownS HOF.out
          obtain ⟨rfl, rfl⟩ : A9 = A8 ∧ c9 = c8 := by injection e8 with e1 e2 e3; exact ⟨e1, e3⟩
          have K8 := Lib.hid h8
          have N4w := Lib.hid (N4.out.below HW.out)
          clear HO HOF e8 h8
          go_wp2_with (go_at_call 21; ((with_reducible refine (HSM.out _ _ _ _ _ N4w.out K8.out).mono ?_); rintro x8 w8 ⟨rfl, b⟩; have B8 := Lib.hid (btS BW.out b); clear b))
          go_ret
          exact ⟨ret_boolD (by simp), B8.out⟩
set_option maxRecDepth 100000 in
set_option maxHeartbeats 3200000 in
theorem stubs_diff1 (st en mo : Int) (la : Bool) (sb ro we : Int) (A : Option Addr) (c : Nat) (hs : List Int) (R : Nat) (hR : R ≤ 98) (V e : Int) (LA LB : List Int) (hla : LA.length = R + 2) (hR1 : 1 ≤ R) (hab : LB = LA.eraseIdx 1) (hlb : LB.length = R + 1) (hc : (e == 0) = false ∨ e = 0 ∧ (V == st) = false) (m0 : 1 ≤ mo) (m1 : mo ≤ 1200) (w : World) (h : CalIn w we A c hs) (hg : grtB hs = false)
    (H0 : ∀ W, Below w.heap.size w W → Calls Tryd.prog 17 #[] W (BolS true W))
    (H1 : ∀ W, Below w.heap.size w W → Calls Tryd.prog 11 #[.agg #[.int .i64 st, .int .i64 en, .int .i64 mo, .bool true, .bool la, .int .u8 0, .int .u8 ro, .int .u8 we, .slice A hs.length c]] W (DtsR LA 0 W))
    (H2 : ∀ W, Below w.heap.size w W → Calls Tryd.prog 11 #[.agg #[.int .i64 st, .int .i64 en, .int .i64 mo, .bool true, .bool la, .int .u8 1, .int .u8 ro, .int .u8 we, .slice A hs.length c]] W (DtsR LB 0 W))
    (H3 : ∀ W, Below w.heap.size w W → Calls Tryd.prog 25 #[.int .i64 en, .int .i64 (-((R : Int) + 1) * mo), .bool la] W fun x w' => x = .returned (.tuple #[.int .i64 V, .int .i64 e]) ∧ W = w') :
    Calls Tryd.prog 8 #[.agg #[.int .i64 st, .int .i64 en, .int .i64 mo, .bool true, .bool la, .int .u8 sb, .int .u8 ro, .int .u8 we, .slice A hs.length c]] w fun e w' => e = .returned (.bool true) ∧ Below w.heap.size w w' := by
  have HG := Lib.hid (fun W (hb : Below w.heap.size w W) => great_anyC we A c hs false W (h.below hb) hg)
  have J0 := Lib.hid H0
  have J1 := Lib.hid H1
  have J2 := Lib.hid H2
  have J3 := Lib.hid H3
  unfold DtsR at J1 J2
  rw [hla] at J1
  have HLA := Lib.hid hla
  have hm0 : 0 ≤ ((R : Int) + 1) * mo := Int.mul_nonneg (by omega) (by omega)
  have hm1 : ((R : Int) + 1) * mo ≤ 120000 := by
    have := Int.mul_le_mul (show (R : Int) + 1 ≤ 100 by omega) m1 (by omega) (by omega)
    omega
  have hR9 : (R : Int) ≤ 98 := by omega
  have hR0 : (0 : Int) ≤ (R : Int) := by omega
  have hm2 : -((R : Int) + 1) * mo = -(((R : Int) + 1) * mo) := Int.neg_mul _ _
  have hm3 : -120000 ≤ -((R : Int) + 1) * mo := by omega
  have hm4 : -((R : Int) + 1) * mo ≤ 0 := by omega
  clear hm2 hm0 hm1
  clear h hg H0 H1 H2 H3 hla
  have HSM := Lib.hid (fun A B c c' W (hA : HsA W A LB) (hB : HsA W B LB) => sameInts_any A B c c' LB LB true (by simp) (by have := hlb; omega) W hA hB)
  rw [hlb] at J2 HSM
  have HAB := Lib.hid hab
  have HLB := Lib.hid hlb
  obtain ⟨i0, hi0, hz0, hz1, hz2⟩ := info_parts infoS
  have hRz : ((R : Int) == 0) = false := by rw [beq_eq_false_iff_ne]; omega
  clear hab hlb
  rcases hc with hc | ⟨rfl, hc⟩
  all_goals
    go_enter Tryd.func8, Tryd.ntmps8
    go_wp2_with (first
      | (go_at_call 17; ((with_reducible refine (J0.out _ (belE_c _ _)).mono ?_); rintro x w1 ⟨rfl, b⟩; obtain ⟨q0, q1, q2, q3, q4, q5, q6, q7, q8⟩ := row9S b; have C1 := Lib.hid b; have B1 := Lib.hid (btS (belE_c _ _) b); clear b))
      | (go_at_call 18; ((with_reducible refine (HG.out _ B1.out).mono ?_); rintro x w2 ⟨rfl, b⟩; obtain ⟨q0, q1, q2, q3, q4, q5, q6, q7, q8⟩ := row9S (btS C1.out b); have C2 := Lib.hid (btS C1.out b); have B2 := Lib.hid (btS B1.out b); clear b)))
    have hlt0 : w.heap.size < w2.heap.size := by have := C2.out.size; simp at this; omega
    have hlt1 : w.heap.size < w2.heap.size + 1 := by omega
    have BX1 : Hid (Below w.heap.size w ((w2.alloc (.cells #[.int .i64 st, .int .i64 en, .int .i64 mo, .bool true, .bool la, .int .u8 0, .int .u8 ro, .int .u8 we, .slice A hs.length c] 27)).alloc (.cells #[.int .i64 st, .int .i64 en, .int .i64 mo, .bool true, .bool la, .int .u8 1, .int .u8 ro, .int .u8 we, .slice A hs.length c] 27)).drew) := Below.drew (btS (btS B2.out (belE_c _ _)) (belE_c _ _))
    have BX2 : Hid (Below w.heap.size w ((w2.alloc (.cells #[.int .i64 st, .int .i64 en, .int .i64 mo, .bool true, .bool la, .int .u8 1, .int .u8 ro, .int .u8 we, .slice A hs.length c] 27)).alloc (.cells #[.int .i64 st, .int .i64 en, .int .i64 mo, .bool true, .bool la, .int .u8 0, .int .u8 ro, .int .u8 we, .slice A hs.length c] 27)).drew) := Below.drew (btS (btS B2.out (belE_c _ _)) (belE_c _ _))
    go_region_held3 (fun w' => w'.cell? ⟨w.heap.size, 0, none⟩ = some (.int .i64 st) ∧ w'.cell? ⟨w.heap.size, 1, none⟩ = some (.int .i64 en) ∧ w'.cell? ⟨w.heap.size, 2, none⟩ = some (.int .i64 mo) ∧ w'.cell? ⟨w.heap.size, 3, none⟩ = some (.bool true) ∧ w'.cell? ⟨w.heap.size, 4, none⟩ = some (.bool la) ∧ w'.cell? ⟨w.heap.size, 5, none⟩ = some (.int .u8 sb) ∧ w'.cell? ⟨w.heap.size, 6, none⟩ = some (.int .u8 ro) ∧ w'.cell? ⟨w.heap.size, 7, none⟩ = some (.int .u8 we) ∧ w'.cell? ⟨w.heap.size, 8, none⟩ = some (.slice A hs.length c))
      (((try go_split_ands); (and_intros) <;> first | assumption | (go_keep; done)))
      (first | fail)
    all_goals
      go_wp2_with (first
        | (go_at_call 11; ((with_reducible refine (J1.out _ BX1.out).mono ?_); rintro x w3 ⟨A3, c3, rfl, h3, -, -, -, b⟩; obtain ⟨p0, p1, p2, p3, p4, p5, p6, p7, p8⟩ := (show _ from (by simpa using row9S (w := w2.alloc (.cells #[.int .i64 st, .int .i64 en, .int .i64 mo, .bool true, .bool la, .int .u8 0, .int .u8 ro, .int .u8 we, .slice A hs.length c] 27)) (Below.drewB b)) : w3.cell? ⟨w2.heap.size + 1, 0, none⟩ = some (.int .i64 st) ∧ w3.cell? ⟨w2.heap.size + 1, 1, none⟩ = some (.int .i64 en) ∧ w3.cell? ⟨w2.heap.size + 1, 2, none⟩ = some (.int .i64 mo) ∧ w3.cell? ⟨w2.heap.size + 1, 3, none⟩ = some (.bool true) ∧ w3.cell? ⟨w2.heap.size + 1, 4, none⟩ = some (.bool la) ∧ w3.cell? ⟨w2.heap.size + 1, 5, none⟩ = some (.int .u8 1) ∧ w3.cell? ⟨w2.heap.size + 1, 6, none⟩ = some (.int .u8 ro) ∧ w3.cell? ⟨w2.heap.size + 1, 7, none⟩ = some (.int .u8 we) ∧ w3.cell? ⟨w2.heap.size + 1, 8, none⟩ = some (.slice A hs.length c)); have C3 := Lib.hid (btS (Below.drew (btS (btS C2.out (belE_c _ _)) (belE_c _ _))) b); have B3 := Lib.hid (btS (belE_c _ _) C3.out); have K3 := Lib.hid h3; clear b h3))
        | (go_at_call 11; ((with_reducible refine (J1.out _ BX2.out).mono ?_); rintro x w3 ⟨A3, c3, rfl, h3, -, -, -, b⟩; obtain ⟨p0, p1, p2, p3, p4, p5, p6, p7, p8⟩ := row9S (w := w2) (btS (belE_c _ _) (Below.drewB b)); have C3 := Lib.hid (btS (Below.drew (btS (btS C2.out (belE_c _ _)) (belE_c _ _))) b); have B3 := Lib.hid (btS (belE_c _ _) C3.out); have K3 := Lib.hid h3; clear b h3))
        | (go_at_call 11; ((with_reducible refine (J2.out _ B3.out).mono ?_); rintro x w4 ⟨A4, c4, rfl, h4, -, -, -, b⟩; obtain ⟨q0, q1, q2, q3, q4, q5, q6, q7, q8⟩ := row9S (btS C3.out b); have C4 := Lib.hid (btS C3.out b); have B4 := Lib.hid (btS B3.out b); have K4 := Lib.hid h4; have K3b := Lib.hid (K3.out.below b); clear b h4 p0 p1 p2 p3 p4 p5 p6 p7 p8)))
      go_quiet (fail)
      have C5 := Lib.hid (below_dn C4.out nq)
      have M5 := Lib.hid (below_dn (Below.refl w4.heap.size w4) nq)
      obtain ⟨W5, hW5⟩ : ∃ W5, w4.drewN nq = W5 := ⟨_, rfl⟩
      rw [hW5] at C5 M5
      rw [hW5]
      clear hW5 nq q0 q1 q2 q3 q4 q5 q6 q7 q8
      obtain ⟨q0, q1, q2, q3, q4, q5, q6, q7, q8⟩ := row9S C5.out
      go_wp2
      go_quiet (fail)
      have C6 := Lib.hid (below_dn C5.out nq)
      have M6 := Lib.hid (below_dn M5.out nq)
      obtain ⟨W6, hW6⟩ : ∃ W6, W5.drewN nq = W6 := ⟨_, rfl⟩
      rw [hW6] at C6 M6
      rw [hW6]
      clear hW6 nq q0 q1 q2 q3 q4 q5 q6 q7 q8
      obtain ⟨q0, q1, q2, q3, q4, q5, q6, q7, q8⟩ := row9S C6.out
      have B6 := Lib.hid (btS (belE_c _ _) C6.out)
      have N3 := Lib.hid (K3b.out.below M6.out)
      have N4 := Lib.hid (K4.out.below M6.out)
      go_wp2_with (first
        | (go_at_call 25; ((with_reducible refine (J3.out _ B6.out).mono ?_); rintro x7 w7 ⟨rfl, rfl⟩)))
      clear q0 q1 q2 q3 q4 q5 q6 q7 q8
      go_loopw [17, 18] (fun v i wr => ∃ (k : Nat) (u : Value), k ≤ R + 2 ∧ v = u ∧ i = .int .i64 k ∧ Hid (wr.ownsRow W6.heap.size 3 1 u ((LA.take k).eraseIdx 1).length (((LA.take k).eraseIdx 1).map encS)) ∧ Hid (Below W6.heap.size W6 wr)) (fun _ i _ => R + 2 - (intOf i).toNat)
      case atStart => exact ⟨0, _, by omega, rfl, rfl, by simpa [Hid] using World.ownsRow_nil _ _ _ _, Below.refl _ _⟩
      case round =>
        obtain ⟨k, u, hk, rfl, rfl, HO, HW⟩ := hrel
        obtain ⟨A9, c9, rfl, -, -, -, -, -⟩ := of_ownS HO.out
        have BW := Lib.hid (btS B6.out HW.out)
        by_cases hlt : k < R + 2
        · obtain ⟨b, o, rfl, -, hcell⟩ := (N3.out.below HW.out).get (show k < LA.length by rw [HLA.out]; exact hlt)
          have d0 := hcell k (by rw [HLA.out]; exact hlt)
          have hlk : (k : Int) < (R : Int) + 2 := by omega
          have htk := take_succS LA (show k < LA.length by rw [HLA.out]; exact hlt)
          by_cases hka : k = 1
          · have HX : Hid ((LA.take (k + 1)).eraseIdx 1 = (LA.take k).eraseIdx 1) := by
              show _ = _
              rw [htk]
              exact er_same (by rw [List.length_take, HLA.out]; omega)
            have hkz : ((k : Int) != 1) = false := by rw [hka]; simp
            have hkz2 : ((k : Int) == 1) = true := by rw [hka]; simp
            clear hka hcell htk
            go_wp2
            go_roundw
            case rel => exact ⟨k + 1, _, by omega, rfl, by go_num, by rw [HX.out]; exact HO.out, HW⟩
            case measure => simp [intOf]; omega
          · have HX : Hid ((LA.take (k + 1)).eraseIdx 1 = (LA.take k).eraseIdx 1 ++ [LA.getD k 0]) := by
              show _ = _
              rw [htk]
              exact er_snoc (by rw [List.length_take, HLA.out]; omega)
            have HXL : Hid (((LA.take (k + 1)).eraseIdx 1).length = ((LA.take k).eraseIdx 1).length + 1) := by show _ = _; rw [HX.out]; simp
            have hkz : ((k : Int) != 1) = true := by rw [bne_iff_ne]; omega
            have hkz2 : ((k : Int) == 1) = false := by rw [beq_eq_false_iff_ne]; omega
            have hlE : ((LA.take k).eraseIdx 1).length ≤ 200 := by
              have := er_len (LA.take k) 1
              rw [List.length_take] at this
              omega
            have hsz := HW.out.size
            clear hka hcell htk
            generalize LA.getD k 0 = x at *
            generalize (LA.take k).eraseIdx 1 = E1 at *
            go_wp2_with (at_builtin; refine wpList_appS1 HO.out _ rfl _ _ 23 rfl i0 (.int .i64 0) 8 Tryd.underlying23 hi0 hz0 hz1 hz2 rfl rfl rfl rfl (by unfold maxLen; omega) (by omega) hsz ?_; intro v' w9 hown hb; have O9 := Lib.hid hown; have W9 := Lib.hid (HW.out.trans hb); clear hown hb)
            go_roundw
            case rel => exact ⟨k + 1, _, by omega, rfl, by go_num, by rw [HXL.out, HX.out, List.map_append]; exact O9.out, W9⟩
            case measure => simp [intOf]; omega
        · obtain rfl : k = R + 2 := by omega
          have HF : Hid ((LA.take (R + 2)).eraseIdx 1 = LB) := by
            show _ = _
            rw [HAB.out, List.take_of_length_le (by rw [HLA.out]; exact Nat.le_refl _)]
          have HOF := Lib.hid (show wr.ownsRow W6.heap.size 3 1 (.slice A9 LB.length c9) LB.length (LB.map encS) by have := HO.out; rw [HF.out] at this; exact this)
          rw [HF.out, HLB.out]
          obtain ⟨A8, c8, e8, -, h8, -, -, -⟩ := of_ownS HOF.out
          obtain ⟨rfl, rfl⟩ : A9 = A8 ∧ c9 = c8 := by injection e8 with e1 e2 e3; exact ⟨e1, e3⟩
          have K8 := Lib.hid h8
          have N4w := Lib.hid (N4.out.below HW.out)
          clear HO HOF e8 h8
          go_wp2_with (go_at_call 21; ((with_reducible refine (HSM.out _ _ _ _ _ N4w.out K8.out).mono ?_); rintro x8 w8 ⟨rfl, b⟩; have B8 := Lib.hid (btS BW.out b); clear b))
          go_ret
          exact ⟨ret_boolD (by simp), B8.out⟩
end Go.Proofs.YtfheeipggedaiaaDoor

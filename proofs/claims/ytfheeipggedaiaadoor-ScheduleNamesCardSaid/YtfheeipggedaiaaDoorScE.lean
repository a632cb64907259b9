/- Layer 6: the reference's walks: what Dates answers; Find, SameInts. -/
import Derived.Test.YtfheeipggedaiaaDoorScD
namespace Go.Proofs.YtfheeipggedaiaaDoor
open Go Go.RowKit

section
variable (st en mo : Int) (bk la : Bool) (sb ro we : Int) (A : Option Addr) (c : Nat) (hs : List Int) (y m d : Int)
/-- How many regular days are among the dates; the error of Dates; the dates. -/
def rdN6 : Nat := if 0 < regN st en mo bk la y m d ∧ sb = 1 ∧ stubB st en mo bk la y m d = true then regN st en mo bk la y m d - 1 else regN st en mo bk la y m d
def rdE : Int := if schB st en mo sb ro we hs then (if 100 < regN st en mo bk la y m d then 4 else if 98 < rdN6 st en mo bk la sb y m d then 4 else 0) else 8
def rdL : List Int := if rdE st en mo bk la sb ro we hs y m d = 0 then dtL bk (stpV mo bk la y m d) (rdN6 st en mo bk la sb y m d) st en else []
theorem schB_iff : schB st en mo sb ro we hs = true ↔ (valB we hs = true ∧ (0 ≤ st ∧ st ≤ 99999) ∧ (0 ≤ en ∧ en ≤ 99999) ∧ st < en ∧ (1 ≤ mo ∧ mo ≤ 1200) ∧ sb ≤ 1 ∧ ro ≤ 4) := by
  unfold schB
  simp only [Bool.and_eq_true, decide_eq_true_eq, dayB_iff, and_assoc]
theorem rvalid_all (w : World) (h : CalIn w we A c hs) :
    Calls Tryd.prog 22 #[.agg #[.int .i64 st, .int .i64 en, .int .i64 mo, .bool bk, .bool la, .int .u8 sb, .int .u8 ro, .int .u8 we, .slice A hs.length c]] w fun e w' => e = .returned (.bool (schB st en mo sb ro we hs)) ∧ Below w.heap.size w w' :=
  rvalid_any st en mo bk la sb ro we A c hs _ _ _ _ _ _ _ w h rfl rfl rfl rfl rfl rfl rfl
theorem rdates_any (w : World) (h : CalIn w we A c hs) (hD : schB st en mo sb ro we hs = true → IsDate y m d (bsd st en bk)) :
    Calls Tryd.prog 19 #[.agg #[.int .i64 st, .int .i64 en, .int .i64 mo, .bool bk, .bool la, .int .u8 sb, .int .u8 ro, .int .u8 we, .slice A hs.length c]] w (DtsR (rdL st en mo bk la sb ro we hs y m d) (rdE st en mo bk la sb ro we hs y m d) w) := by
  have H0 : ∀ W, Below w.heap.size w W → Calls Tryd.prog 22 #[.agg #[.int .i64 st, .int .i64 en, .int .i64 mo, .bool bk, .bool la, .int .u8 sb, .int .u8 ro, .int .u8 we, .slice A hs.length c]] W fun e w' => e = .returned (.bool (schB st en mo sb ro we hs)) ∧ Below W.heap.size W w' := fun W hW => rvalid_all st en mo bk la sb ro we A c hs W (h.below hW)
  have eE : rdE st en mo bk la sb ro we hs y m d = if schB st en mo sb ro we hs then (if 100 < regN st en mo bk la y m d then 4 else if 98 < rdN6 st en mo bk la sb y m d then 4 else 0) else 8 := rfl
  unfold rdL
  cases hv : schB st en mo sb ro we hs
  · rw [hv] at H0 eE
    rw [if_neg (by decide)] at eE
    rw [eE, if_neg (by decide)]
    exact rdates_bad st en mo bk la sb ro we A c hs w H0
  · rw [hv] at H0 eE
    rw [if_pos rfl] at eE
    obtain ⟨-, s0, e0, hlt, m0, hsb, hro⟩ := (schB_iff st en mo sb ro we hs).1 hv
    have hd := hD hv
    have hb : bsd st en bk ≤ 99999 := by unfold bsd; split <;> omega
    have H1 := fun W => rregular_any st en mo bk la sb ro we A c hs y m d m0.1 m0.2 hd hb W
    have H2 := fun W => rstub_any st en mo bk la sb ro we A c hs y m d m0.1 m0.2 hd hb W
    have H3 := fun (k : Nat) W (k0 : 1 ≤ k) (k1 : k ≤ 200) => rstep_any st en mo bk la sb ro we A c hs y m d k k0 k1 m0.1 m0.2 hd hb W
    by_cases h100 : 100 < regN st en mo bk la y m d
    · rw [if_pos h100] at eE
      rw [eE, if_neg (by decide)]
      exact rdates_many st en mo bk la sb ro we A c hs _ (by omega) w H0 H1
    · rw [if_neg h100] at eE
      have hc : ((regN st en mo bk la y m d : Int) = 0 ∧ rdN6 st en mo bk la sb y m d = 0) ∨ (0 < (regN st en mo bk la y m d : Int) ∧ (sb == 1) = false ∧ (rdN6 st en mo bk la sb y m d : Int) = regN st en mo bk la y m d) ∨ (0 < (regN st en mo bk la y m d : Int) ∧ sb = 1 ∧ stubB st en mo bk la y m d = false ∧ (rdN6 st en mo bk la sb y m d : Int) = regN st en mo bk la y m d) ∨ (0 < (regN st en mo bk la y m d : Int) ∧ sb = 1 ∧ stubB st en mo bk la y m d = true ∧ (rdN6 st en mo bk la sb y m d : Int) + 1 = regN st en mo bk la y m d) := by
        unfold rdN6
        generalize regN st en mo bk la y m d = R
        generalize stubB st en mo bk la y m d = z
        by_cases hR : 0 < R
        · by_cases h1 : sb = 1
          · cases z
            · rw [if_neg (by simp)]; right; right; left; exact ⟨by omega, h1, rfl, rfl⟩
            · rw [if_pos ⟨hR, h1, rfl⟩]; right; right; right; exact ⟨by omega, h1, rfl, by omega⟩
          · rw [if_neg (fun g => h1 g.2.1)]; right; left; exact ⟨by omega, by rw [beq_eq_false_iff_ne]; exact h1, rfl⟩
        · rw [if_neg (fun g => hR g.1)]; left; omega
      generalize rdN6 st en mo bk la sb y m d = n at *
      generalize regN st en mo bk la y m d = R at *
      by_cases h98 : 98 < n
      · rw [if_pos h98] at eE
        rw [eE, if_neg (by decide)]
        exact rdates_many2 st en mo bk la sb ro we A c hs _ _ n (by omega) h98 hc w H0 H1 H2
      · rw [if_neg h98] at eE
        rw [eE, if_pos rfl]
        cases bk
        · exact rdates_ok0 st en mo la sb ro we A c hs _ _ _ _ n (by omega) (by omega) hc w H0 H1 H2 (fun k W a b => H3 k W a b)
        · exact rdates_ok1 st en mo la sb ro we A c hs _ _ _ _ n (by omega) (by omega) hc w H0 H1 H2 (fun k W a b => H3 k W a b)
end
theorem ext_toS {xs ys : List Int} (hl : xs.length = ys.length) (h : ∀ j, j < xs.length → xs.getD j 0 = ys.getD j 0) : xs = ys := by
  refine List.ext_getElem hl fun j h1 h2 => ?_
  have := h j h1
  rw [List.getD_eq_getElem?_getD, List.getD_eq_getElem?_getD, List.getElem?_eq_getElem h1, List.getElem?_eq_getElem h2] at this
  exact this
/-- Does the i-th period hold the day? -/
def perB (L : List Int) (day : Int) (i : Nat) : Prop := L.getD i 0 ≤ day ∧ day < L.getD (i + 1) 0
/-- What Find answers. -/
structure FndR (L : List Int) (day v e : Int) : Prop where
  at' : ∀ i, i + 1 < L.length → (∀ j, j < i → ¬ perB L day j) → perB L day i → v = i ∧ e = 0
  no : (∀ j, j + 1 < L.length → ¬ perB L day j) → v = 0 ∧ e = 6
section
variable (st en mo : Int) (bk la : Bool) (sb ro we : Int) (A : Option Addr) (c : Nat) (hs : List Int)
def FinR (v e : Int) (w : World) (x : Ending) (w' : World) : Prop := x = .returned (.tuple #[.int .i64 v, .int .i64 e]) ∧ Below w.heap.size w w'
set_option maxRecDepth 100000 in
set_option maxHeartbeats 1600000 in
theorem rfind_err (day e : Int) (he : (e != 0) = true) (w : World) (H : ∀ W, Below w.heap.size w W → Calls Tryd.prog 19 #[.agg #[.int .i64 st, .int .i64 en, .int .i64 mo, .bool bk, .bool la, .int .u8 sb, .int .u8 ro, .int .u8 we, .slice A hs.length c]] W (DtsR [] e W)) :
    Calls Tryd.prog 23 #[.agg #[.int .i64 st, .int .i64 en, .int .i64 mo, .bool bk, .bool la, .int .u8 sb, .int .u8 ro, .int .u8 we, .slice A hs.length c], .int .i64 day] w (FinR 0 e w) := by
  have J := Lib.hid H
  clear H
  go_enter Tryd.func23, Tryd.ntmps23
  go_wp2_with (go_at_call 19; ((with_reducible refine (J.out _ (belE_c _ _)).mono ?_); rintro x w1 ⟨A1, c1, rfl, -, -, -, -, b⟩; have B1 := Lib.hid (btS (belE_c _ _) b); clear b))
  go_ret2
  exact ⟨rfl, B1.out⟩
set_option maxRecDepth 100000 in
set_option maxHeartbeats 1600000 in
theorem rfind_day (day : Int) (L : List Int) (hd : dayB day = false) (w : World) (H : ∀ W, Below w.heap.size w W → Calls Tryd.prog 19 #[.agg #[.int .i64 st, .int .i64 en, .int .i64 mo, .bool bk, .bool la, .int .u8 sb, .int .u8 ro, .int .u8 we, .slice A hs.length c]] W (DtsR L 0 W)) :
    Calls Tryd.prog 23 #[.agg #[.int .i64 st, .int .i64 en, .int .i64 mo, .bool bk, .bool la, .int .u8 sb, .int .u8 ro, .int .u8 we, .slice A hs.length c], .int .i64 day] w (FinR 0 2 w) := by
  have J := Lib.hid H
  have HD := Lib.hid (dayR_any day false hd)
  clear H hd
  go_enter Tryd.func23, Tryd.ntmps23
  go_wp2_with (first
    | (go_at_call 19; ((with_reducible refine (J.out _ (belE_c _ _)).mono ?_); rintro x w1 ⟨A1, c1, rfl, -, -, -, -, b⟩; have B1 := Lib.hid (btS (belE_c _ _) b); clear b))
    | (go_at_call 36; ((with_reducible refine (HD.out _).mono ?_); rintro x w2 ⟨rfl, rfl⟩)))
  go_ret2
  exact ⟨rfl, B1.out⟩
set_option maxRecDepth 100000 in
set_option maxHeartbeats 3200000 in
theorem rfind_in (day v e : Int) (L : List Int) (hL : 2 ≤ L.length) (hL2 : L.length ≤ 1000) (hF : FndR L day v e) (hd : dayB day = true) (w : World) (H : ∀ W, Below w.heap.size w W → Calls Tryd.prog 19 #[.agg #[.int .i64 st, .int .i64 en, .int .i64 mo, .bool bk, .bool la, .int .u8 sb, .int .u8 ro, .int .u8 we, .slice A hs.length c]] W (DtsR L 0 W)) :
    Calls Tryd.prog 23 #[.agg #[.int .i64 st, .int .i64 en, .int .i64 mo, .bool bk, .bool la, .int .u8 sb, .int .u8 ro, .int .u8 we, .slice A hs.length c], .int .i64 day] w (FinR v e w) := by
  have J := Lib.hid H
  have HD := Lib.hid (dayR_any day true hd)
  have HF := Lib.hid hF
  obtain ⟨N, hN⟩ : ∃ N, L.length = N + 1 := ⟨L.length - 1, by omega⟩
  have HN := Lib.hid hN
  have n0 : 1 ≤ N := by omega
  have n1 : N ≤ 1000 := by omega
  clear H hd hF hL hL2
  go_enter Tryd.func23, Tryd.ntmps23
  go_wp2_with (first
    | (go_at_call 19; ((with_reducible refine (J.out _ (belE_c _ _)).mono ?_); rintro x w1 ⟨A1, c1, rfl, hr, -, -, -, b⟩; have B1 := Lib.hid (btS (belE_c _ _) b); have HR := Lib.hid hr; clear b hr))
    | (go_at_call 36; ((with_reducible refine (HD.out _).mono ?_); rintro x w2 ⟨rfl, rfl⟩)))
  go_loop [8] (fun i => ∃ k : Nat, k ≤ N ∧ i = .int .i64 k ∧ Hid (∀ j, j < k → ¬ perB L day j)) (fun i => N - (intOf i).toNat)
  case atStart => exact ⟨0, by omega, rfl, fun j h => by omega⟩
  case round =>
    obtain ⟨k, hk, rfl, HA⟩ := hrel
    by_cases hlt : k < N
    · obtain ⟨b, o, rfl, -, hcell⟩ := HR.out.get (show k < L.length by omega)
      have d0 := hcell k (by omega)
      have d1 := hcell (k + 1) (by omega)
      have HP : Hid (perB L day k ↔ (L.getD k 0 ≤ day ∧ day < L.getD (k + 1) 0)) := Iff.rfl
      have HV := Lib.hid (fun (h : perB L day k) => HF.out.at' k (by rw [HN.out]; omega) HA.out h)
      have HX : Hid (¬ perB L day k → ∀ j, j < k + 1 → ¬ perB L day j) := fun g j hj => by
        rcases Nat.lt_or_ge j k with q | q
        · exact HA.out j q
        · obtain rfl : j = k := by omega
          exact g
      have hk1 : (k : Int) + 1 < (N : Int) + 1 := by omega
      clear hcell HF HR hN
      generalize L.getD k 0 = x at *
      generalize L.getD (k + 1) 0 = y at *
      by_cases g1 : x ≤ day
      · by_cases g2 : day < y
        · obtain ⟨rfl, rfl⟩ := HV.out (HP.out.2 ⟨g1, g2⟩)
          clear HV HX HP
          go_wp2
          go_ret2
          exact ⟨rfl, B1.out⟩
        · have HX2 := Lib.hid (HX.out (fun h => g2 (HP.out.1 h).2))
          clear HV HX HP
          go_wp2
          go_round
          case rel => exact ⟨k + 1, by omega, by go_num, HX2⟩
          case measure => simp [intOf]; omega
      · have HX2 := Lib.hid (HX.out (fun h => g1 (HP.out.1 h).1))
        clear HV HX HP
        go_wp2
        go_round
        case rel => exact ⟨k + 1, by omega, by go_num, HX2⟩
        case measure => simp [intOf]; omega
    · obtain rfl : k = N := by omega
      obtain ⟨rfl, rfl⟩ := HF.out.no (fun j h => HA.out j (by omega))
      clear HF HA
      go_wp2
      go_ret2
      exact ⟨rfl, B1.out⟩
end
set_option maxRecDepth 100000 in
set_option maxHeartbeats 1600000 in
theorem sameInts_any (A B : Option Addr) (c c' : Nat) (xs ys : List Int) (r : Bool) (hr : decide (xs = ys) = r) (hl : xs.length ≤ 1000000) (w : World) (hA : HsA w A xs) (hB : HsA w B ys) :
    Calls Tryd.prog 21 #[.slice A xs.length c, .slice B ys.length c'] w fun e w' => e = .returned (.bool r) ∧ Below w.heap.size w w' := by
  by_cases hlen : xs.length = ys.length
  · have HE : Hid (r = true ↔ ∀ j, j < xs.length → xs.getD j 0 = ys.getD j 0) := by
      show _ ↔ _
      rw [← hr, decide_eq_true_iff]
      exact ⟨fun h j _ => by rw [h], fun h => ext_toS hlen h⟩
    rw [← hlen]
    have HA := Lib.hid hA
    have HB := Lib.hid hB
    have HL := Lib.hid hlen
    obtain ⟨N, hN⟩ : ∃ N, xs.length = N := ⟨_, rfl⟩
    rw [hN] at hl HE ⊢
    have HN := Lib.hid hN
    clear hA hB hr hlen hN
    go_enter Tryd.func21, Tryd.ntmps21
    go_wp2
    go_loopw [5] (fun i wr => ∃ k : Nat, k ≤ N ∧ i = .int .i64 k ∧ Hid (∀ j, j < k → xs.getD j 0 = ys.getD j 0) ∧ Hid (Below w.heap.size w wr)) (fun i _ => N - (intOf i).toNat)
    case atStart => exact ⟨0, by omega, rfl, fun j h => by omega, Below.refl _ _⟩
    case round =>
      obtain ⟨k, hk, rfl, HI, HW⟩ := hrel
      by_cases hlt : k < N
      · obtain ⟨b, o, rfl, -, hcell⟩ := (HA.out.below HW.out).get (show k < xs.length by rw [HN.out]; exact hlt)
        obtain ⟨b', o', rfl, -, hcell'⟩ := (HB.out.below HW.out).get (show k < ys.length by rw [← HL.out, HN.out]; exact hlt)
        have d0 := hcell k (by rw [HN.out]; exact hlt)
        have d1 := hcell' k (by rw [← HL.out, HN.out]; exact hlt)
        have hk1 : (k : Int) < (N : Int) := by omega
        have HX : Hid (xs.getD k 0 = ys.getD k 0 → ∀ j, j < k + 1 → xs.getD j 0 = ys.getD j 0) := fun g j hj => by
          rcases Nat.lt_or_ge j k with q | q
          · exact HI.out j q
          · obtain rfl : j = k := by omega
            exact g
        have HY : Hid (xs.getD k 0 ≠ ys.getD k 0 → r = false) := fun g => by
          cases r
          · rfl
          · exact absurd (HE.out.1 rfl k hlt) g
        clear hcell hcell' HA HB HE HI
        generalize xs.getD k 0 = x at *
        generalize ys.getD k 0 = y at *
        by_cases g1 : x = y
        · have HX2 := Lib.hid (HX.out g1)
          subst g1
          clear HX HY
          go_wp2
          go_quiet (fail)
          have HW2 := Lib.hid (below_dn HW.out nq)
          go_wp2
          go_round
          case rel => exact ⟨k + 1, by omega, by go_num, HX2, HW2⟩
          case measure => simp [intOf]; omega
        · obtain rfl := HY.out g1
          have g2 : (x != y) = true := by rw [bne_iff_ne]; exact g1
          have g3 : (x == y) = false := by rw [beq_eq_false_iff_ne]; exact g1
          clear HX HY g1
          go_wp2
          go_quiet (fail)
          have HW2 := Lib.hid (below_dn HW.out nq)
          go_wp2
          go_ret
          exact ⟨rfl, HW2.out⟩
      · obtain rfl : k = N := by omega
        have hrt : r = true := HE.out.2 HI.out
        subst hrt
        clear HE HI
        go_wp2
        go_ret
        exact ⟨rfl, HW.out⟩
  · have hrf : r = false := by rw [← hr, decide_eq_false_iff_not]; exact fun h => hlen (by rw [h])
    have hn : ((xs.length : Int) != (ys.length : Int)) = true := by rw [bne_iff_ne]; omega
    have hn2 : ((xs.length : Int) == (ys.length : Int)) = false := by rw [beq_eq_false_iff_ne]; omega
    subst hrf
    clear hr hA hB hlen
    go_enter Tryd.func21, Tryd.ntmps21
    go_wp2
    go_ret
    exact ⟨rfl, Below.refl _ _⟩
end Go.Proofs.YtfheeipggedaiaaDoor

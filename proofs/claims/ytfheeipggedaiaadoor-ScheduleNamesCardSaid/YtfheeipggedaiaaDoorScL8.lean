/- Layer 6: what the law ScheduleNames calls, at its constants. -/
import Derived.Test.YtfheeipggedaiaaDoorScZ
namespace Go.Proofs.YtfheeipggedaiaaDoor
open Go Go.RowKit

theorem nm6_cal (w : World) (we : Int) (h : (decide (0 ≤ we) && decide (we ≤ 255)) = true) : CalIn w we none 0 [] := by
  rw [Bool.and_eq_true, decide_eq_true_eq, decide_eq_true_eq] at h
  exact ⟨h.1, h.2, .inl rfl, by simp, fun _ => rfl⟩
theorem nm6_g1 (W : World) (b : Nat) (hb : b = W.heap.size) (hV : VarD W) : Calls Tryd.prog 10 #[.agg #[.int .i64 0, .int .i64 99999, .int .i64 1200, .bool false, .bool false, .int .u8 0, .int .u8 0, .int .u8 0, .slice none 0 0], .slice (some ⟨b, 0, none⟩) 4 4] (W.alloc (.cells #[.int .i64 0, .int .i64 36524, .int .i64 73049, .int .i64 99999] 3)) (BolS true (W.alloc (.cells #[.int .i64 0, .int .i64 36524, .int .i64 73049, .int .i64 99999] 3))) :=
  sgives_walk 0 99999 1200 false false 0 0 0 none 0 [] [0, 36524, 73049, 99999] (some ⟨b, 0, none⟩) 4 (by decide) _ (hs_at W [0, 36524, 73049, 99999] 3 b hb) (fun W2 h2 => dates_at 0 99999 1200 false false 0 1900 1 1 _ (isd (by decide +kernel)) (by decide +kernel) (by decide +kernel) W2 (hV.below (btS (belE_c _ _) h2)))
theorem nm6_g2 (W : World) (b : Nat) (hb : b = W.heap.size) (hV : VarD W) : Calls Tryd.prog 10 #[.agg #[.int .i64 5, .int .i64 6, .int .i64 1, .bool false, .bool false, .int .u8 1, .int .u8 0, .int .u8 0, .slice none 0 0], .slice (some ⟨b, 0, none⟩) 2 2] (W.alloc (.cells #[.int .i64 5, .int .i64 6] 3)) (BolS true (W.alloc (.cells #[.int .i64 5, .int .i64 6] 3))) :=
  sgives_walk 5 6 1 false false 1 0 0 none 0 [] [5, 6] (some ⟨b, 0, none⟩) 2 (by decide) _ (hs_at W [5, 6] 3 b hb) (fun W2 h2 => dates_at 5 6 1 false false 1 1900 1 6 _ (isd (by decide +kernel)) (by decide +kernel) (by decide +kernel) W2 (hV.below (btS (belE_c _ _) h2)))
theorem nm6_d1 (W : World) (hV : VarD W) : Calls Tryd.prog 11 #[.agg #[.int .i64 0, .int .i64 36524, .int .i64 12, .bool false, .bool false, .int .u8 0, .int .u8 0, .int .u8 0, .slice none 0 0]] W (DtsR [] 4 W) := by
  have := pdates_any 0 36524 12 false false 0 0 0 none 0 [] 1900 1 1 W (nm6_cal W 0 (by decide)) hV (fun _ => isd (by decide +kernel))
  have e : rdE 0 36524 12 false false 0 0 0 [] 1900 1 1 = 4 := by decide +kernel
  rw [rdL_bad _ _ _ _ _ _ _ _ _ _ _ _ (by rw [e]; decide), e] at this
  exact this
theorem nm6_d2 (W : World) (hV : VarD W) : Calls Tryd.prog 11 #[.agg #[.int .i64 0, .int .i64 36159, .int .i64 12, .bool false, .bool false, .int .u8 0, .int .u8 0, .int .u8 0, .slice none 0 0]] W fun x w' => ∃ A c, x = .returned (.tuple #[.slice A 100 c, .int .i64 0]) ∧ Below W.heap.size W w' := by
  have := pdates_any 0 36159 12 false false 0 0 0 none 0 [] 1900 1 1 W (nm6_cal W 0 (by decide)) hV (fun _ => isd (by decide +kernel))
  have e : rdE 0 36159 12 false false 0 0 0 [] 1900 1 1 = 0 := by decide +kernel
  obtain ⟨-, hL, -, -, -⟩ := rdL_ok 0 36159 12 false false 0 0 0 [] 1900 1 1 e
  have hn : rdN6 0 36159 12 false false 0 1900 1 1 = 98 := by decide +kernel
  rw [hL, hn, e] at this
  refine this.mono ?_
  rintro x w' ⟨A, c, rfl, -, -, -, -, b⟩
  rw [dtL_len]
  exact ⟨A, c, rfl, b⟩
theorem nm6_f (day v e : Int) (hv : fdV 45304 45472 2 false false 0 0 0 [] 2024 1 15 day = v) (he : fdE 45304 45472 2 false false 0 0 0 [] 2024 1 15 day = e) (W : World) (hV : VarD W) :
    Calls Tryd.prog 12 #[.agg #[.int .i64 45304, .int .i64 45472, .int .i64 2, .bool false, .bool false, .int .u8 0, .int .u8 0, .int .u8 0, .slice none 0 0], .int .i64 day] W (FinR v e W) := by
  have := pfind_any 45304 45472 2 false false 0 0 0 none 0 [] 2024 1 15 day W (nm6_cal W 0 (by decide)) hV (fun _ => isd (by decide +kernel))
  rw [hv, he] at this
  exact this
theorem nm6_hit {p : Int → Bool} {x : Int} (h : (decide (0 ≤ x) && decide (x ≤ 99999) && p x) = true) : fwO p x 1 = some x := by
  rw [Bool.and_eq_true, Bool.and_eq_true, decide_eq_true_eq, decide_eq_true_eq] at h
  exact (fw_iffS p x 1 x h.1.1 (by omega) (by omega)).2 ⟨h.2, by omega, h.1.2, by omega⟩
/-- A business day rolls to itself. -/
theorem nm6_same {S : Int → Bool} {we x : Int} {hs : List Int} (hS : SmIs x S) (hv : chkE we hs [x] = 0) (h : (decide (0 ≤ x) && decide (x ≤ 99999) && bizB we hs x) = true) : rlV S we hs x 3 = x ∧ rlE S we hs x 3 = 0 := by
  have hf := nm6_hit h
  have h0 : 0 ≤ x := by
    rw [Bool.and_eq_true, Bool.and_eq_true, decide_eq_true_eq] at h
    exact h.1.1
  have ho : rolO S (bizB we hs) 3 x = some x := by
    unfold rolO
    rw [if_neg (by decide), if_neg (by decide), if_neg (by decide), if_pos rfl, hf]
    show (if S x then some x else _) = _
    rw [smIs_self hS h0]; rfl
  unfold rlV rlE
  rw [hv, if_pos rfl, if_pos (by decide), if_pos rfl, if_pos (by decide), ho]
  exact ⟨rfl, rfl⟩
def nmP : List Per := [(45304, 45364, 45304, 45364), (45364, 45425, 45364, 45425), (45425, 45472, 45425, 45472)]
theorem nm6_p1 (W : World) (hV : VarD W) : Calls Tryd.prog 14 #[.agg #[.int .i64 45304, .int .i64 45472, .int .i64 2, .bool false, .bool false, .int .u8 0, .int .u8 3, .int .u8 96, .slice none 0 0]] W (PrsP nmP 0 W) := by
  obtain ⟨S, hS⟩ := smF_ex
  have := pper_any 45304 45472 2 false false 0 3 96 none 0 [] 2024 1 15 S W (nm6_cal W 96 (by decide)) hV (by decide) hS (fun _ => isd (by decide +kernel))
  have e : rdE 45304 45472 2 false false 0 3 96 [] 2024 1 15 = 0 := by decide +kernel
  have eL : rdL 45304 45472 2 false false 0 3 96 [] 2024 1 15 = [45304, 45364, 45425, 45472] := by decide +kernel
  have r0 := nm6_same (we := 96) (hs := []) (hS 45304 (by decide)) (by decide +kernel) (by decide +kernel)
  have r1 := nm6_same (we := 96) (hs := []) (hS 45364 (by decide)) (by decide +kernel) (by decide +kernel)
  have r2 := nm6_same (we := 96) (hs := []) (hS 45425 (by decide)) (by decide +kernel) (by decide +kernel)
  have r3 := nm6_same (we := 96) (hs := []) (hS 45472 (by decide)) (by decide +kernel) (by decide +kernel)
  have hok : prOk 3 96 [] S [45304, 45364, 45425, 45472] = true := by
    rw [prOk_iff]
    intro i hi
    have : i = 0 ∨ i = 1 ∨ i = 2 ∨ i = 3 := by simp at hi; omega
    rcases this with rfl | rfl | rfl | rfl
    · exact r0.2
    · exact r1.2
    · exact r2.2
    · exact r3.2
  have eE : prE 45304 45472 2 false false 0 3 96 [] 2024 1 15 S = 0 := by unfold prE; rw [if_pos e, eL, hok]; rfl
  have eR : prR 45304 45472 2 false false 0 3 96 [] 2024 1 15 S = nmP := by
    unfold prR
    rw [if_pos eE, eL]
    have v0 : rolV 3 96 [] S [45304, 45364, 45425, 45472] 0 = 45304 := r0.1
    have v1 : rolV 3 96 [] S [45304, 45364, 45425, 45472] 1 = 45364 := r1.1
    have v2 : rolV 3 96 [] S [45304, 45364, 45425, 45472] 2 = 45425 := r2.1
    have v3 : rolV 3 96 [] S [45304, 45364, 45425, 45472] 3 = 45472 := r3.1
    show [pmk [45304, 45364, 45425, 45472] _ 0, pmk [45304, 45364, 45425, 45472] _ 1, pmk [45304, 45364, 45425, 45472] _ 2] = _
    unfold pmk
    rw [v0, v1, v2, v3]
    rfl
  rw [eE, eR] at this
  exact this
theorem nm6_none : fwO (bizB 0 [99999]) 99999 1 = none := by decide +kernel
theorem nm6_p2 (B : Nat) (W : World) (h : HsA W (some ⟨B, 0, none⟩) [99999]) (hV : VarD W) : Calls Tryd.prog 14 #[.agg #[.int .i64 99998, .int .i64 99999, .int .i64 1, .bool false, .bool false, .int .u8 0, .int .u8 1, .int .u8 0, .slice (some ⟨B, 0, none⟩) 1 1]] W (PrsP [] 40 W) := by
  obtain ⟨S, hS⟩ := smF_ex
  obtain ⟨y, m, d, hd⟩ := isDate_of 99998 (by decide)
  have hI : CalIn W 0 (some ⟨B, 0, none⟩) 1 [99999] := ⟨by decide, by decide, h, by show 1 ≤ 9223372036854775807; decide, fun e => by cases e⟩
  obtain ⟨y, m, d, hD⟩ := tri_ex 99998 99999 1 false 0 1 0 [99999]
  have := pper_any 99998 99999 1 false false 0 1 0 (some ⟨B, 0, none⟩) 1 [99999] y m d S W hI hV (by decide) hS hD
  have hv : schB 99998 99999 1 0 1 0 [99999] = true := by decide +kernel
  have hR : regN 99998 99999 1 false false y m d = 0 := by
    have hh := hD hv
    obtain ⟨-, -, -, -, hm⟩ := regU_spec (la := false) (bk := false) (st := 99998) (en := 99999) (mo := 1) (by decide) (by decide) hh (by decide)
    obtain ⟨-, b, c, -⟩ := reg_spec (stpB 99998 99999 1 false false y m d) 101 0
    rcases Nat.eq_zero_or_pos (regN 99998 99999 1 false false y m d) with g | g
    · exact g
    · have h1 := c 1 (by omega) g
      unfold stpB at h1
      rw [Bool.and_eq_true, Bool.and_eq_true, decide_eq_true_eq, decide_eq_true_eq, decide_eq_true_eq] at h1
      omega
  have hn : rdN6 99998 99999 1 false false 0 y m d = 0 := by unfold rdN6; rw [hR, if_neg (by omega)]
  have e : rdE 99998 99999 1 false false 0 1 0 [99999] y m d = 0 := by unfold rdE; rw [hv, if_pos rfl, hR, hn]; rfl
  obtain ⟨-, hL, -⟩ := rdL_ok 99998 99999 1 false false 0 1 0 [99999] y m d e
  rw [hn] at hL
  have hl : (rdL 99998 99999 1 false false 0 1 0 [99999] y m d).length = 2 := by rw [hL, dtL_len]
  have h1 : (rdL 99998 99999 1 false false 0 1 0 [99999] y m d).getD 1 0 = 99999 := by rw [hL, dtL_get _ _ _ _ _ (by omega)]; exact dtI_end _ _ 0 _ _
  have hbad : prOk 1 0 [99999] S (rdL 99998 99999 1 false false 0 1 0 [99999] y m d) = false := by
    rw [Bool.eq_false_iff]
    intro g
    have := (prOk_iff 1 0 [99999] S _).1 g 1 (by omega)
    unfold rolE rlE at this
    rw [h1, show chkE 0 [99999] [99999] = 0 by decide +kernel, if_pos rfl, if_pos (by decide)] at this
    unfold rolO at this
    rw [if_neg (by decide), if_pos rfl, nm6_none] at this
    cases this
  have eE : prE 99998 99999 1 false false 0 1 0 [99999] y m d S = 40 := by unfold prE; rw [if_pos e, hbad]; rfl
  have eR : prR 99998 99999 1 false false 0 1 0 [99999] y m d S = [] := by unfold prR; rw [eE, if_neg (by decide)]
  rw [eE, eR] at this
  exact this
theorem nm6_c (st en mo : Int) (sb ro we : Int) (hw : (decide (0 ≤ we) && decide (we ≤ 255)) = true) (hc : ckE st en mo sb ro we [] = 8) (W : World) :
    Calls Tryd.prog 15 #[.agg #[.int .i64 st, .int .i64 en, .int .i64 mo, .bool false, .bool false, .int .u8 sb, .int .u8 ro, .int .u8 we, .slice none 0 0]] W fun x w' => x = .returned (.int .i64 8) ∧ Below W.heap.size W w' := by
  have := pcheck_any st en mo false false sb ro we none 0 [] W (nm6_cal W we hw)
  rw [hc] at this
  exact this
/-- A list of periods, just laid. -/
theorem hsP_new (w : World) (ps : List Per) (t : TypeId) : HsP (w.alloc (.cells (persV ps).toArray t)) (some ⟨w.heap.size, 0, none⟩) ps := by
  refine .inr ⟨w.heap.size, rfl, by simp, fun j hj => ?_⟩
  obtain ⟨a, b, c, d⟩ := persV_get ps j hj
  refine ⟨?_, ?_, ?_, ?_⟩
  · exact box_cell w _ t _ (by simpa using a)
  · exact box_cell w _ t _ (by simpa using b)
  · exact box_cell w _ t _ (by simpa using c)
  · exact box_cell w _ t _ (by simpa using d)
end Go.Proofs.YtfheeipggedaiaaDoor

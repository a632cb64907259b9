/- Layer 4: the reference's walks: days looked at one by one. -/
import Derived.Test.YtfheeipggedaiaaDoorCalH
namespace Go.Proofs.YtfheeipggedaiaaDoor
open Go Go.RowKit

/-- How many days are left. -/
def stepsN (s : Int) (v : Value) : Nat := if s = 1 then (100000 - intOf v).toNat else (intOf v + 1).toNat
theorem stepsN_of {s : Int} {k : Nat} {d : Int} (h : At s k d) : stepsN s (.int .i64 d) = k := by
  unfold stepsN intOf; unfold At at h; simp only; split <;> omega

set_option maxRecDepth 100000 in
set_option maxHeartbeats 1600000 in
theorem walk_any (we : Int) (A : Option Addr) (c : Nat) (hs : List Int) (s d n v e : Int) (k : Nat) (w : World) (h : CalIn w we A c hs) (hv : valB we hs = true) (ha : At s k d) (n0 : 1 ≤ n) (n1 : n ≤ 100000) (h1 : nV (nthL (bizB we hs) (dys s k d) n) = v) (h2 : nE (nthL (bizB we hs) (dys s k d) n) = e) :
    Calls Tryd.prog 54 #[.agg #[.int .u8 we, .slice A hs.length c], .int .i64 d, .int .i64 s, .int .i64 n] w fun x w' => x = .returned (.tuple #[.int .i64 v, .int .i64 e]) ∧ Below w.heap.size w w' := by
  obtain ⟨W1, hW1⟩ : ∃ W1, w.alloc (.cells #[.int .u8 we, .slice A hs.length c] 25) = W1 := ⟨_, rfl⟩
  have HB1 : Hid (Below w.heap.size w W1) := by show Below _ _ _; rw [← hW1]; exact bel1 _ _
  have HC1 : Hid (CalAt W1 w.heap.size we A c hs) := by show CalAt _ _ _ _ _ _; rw [← hW1]; exact CalAt.new h.rd
  have HI := Lib.hid h
  have HV := Lib.hid hv
  have HA := Lib.hid ha
  have H1 := Lib.hid h1
  have H2 := Lib.hid h2
  have hsb := ha.bd
  obtain ⟨_, _, s0, s1⟩ := hsb
  clear h hv h1 h2
  go_enter Tryd.func54, Tryd.ntmps54
  go_wp2
  clear hW1
  go_loopw [1, 3] (fun x y wr => ∃ (k' : Nat) (d' m : Int), x = .int .i64 d' ∧ y = .int .i64 m ∧ Hid (At s k' d') ∧ 1 ≤ m ∧ m ≤ n ∧ Hid (nthL (bizB we hs) (dys s k' d') m = nthL (bizB we hs) (dys s k d) n) ∧ Hid (Below w.heap.size w wr) ∧ Hid (CalAt wr w.heap.size we A c hs)) (fun x _ _ => stepsN s x)
  case atStart => exact ⟨k, d, n, rfl, rfl, ha, n0, Int.le_refl _, rfl, HB1, HC1⟩
  case round =>
    obtain ⟨k', d', m, rfl, rfl, HA', m0, m1, HN, HBr, HCr⟩ := hrel
    have c0 := HCr.out.c0
    have c1 := HCr.out.c1
    have hbd := HA'.out.bd
    obtain ⟨b0, b1, _, _⟩ := hbd
    have m9 : m ≤ 100000 := by omega
    cases k' with
    | zero =>
      have HD := Lib.hid (dayR_any d' false (by rw [HA'.out.dayB]; rfl))
      have HR : Hid (v = 0 ∧ e = 40) := by
        have := HN.out
        simp only [dys, nthL] at this
        rw [← H1.out, ← H2.out, ← this]; exact ⟨rfl, rfl⟩
      clear ha
      go_wp2_with (go_at_call 36; ((with_reducible refine (HD.out _).mono ?_); rintro x w' ⟨rfl, rfl⟩))
      go_ret2
      exact ⟨by rw [HR.out.1, HR.out.2]; rfl, HBr.out⟩
    | succ k' =>
      have HD := Lib.hid (dayR_any d' true (by rw [HA'.out.dayB]; simp))
      have hdd := HA'.out.day
      have HX := Lib.hid HA'.out.next
      have HM := Lib.hid (stepsN_of HA'.out)
      have HM' := Lib.hid (stepsN_of HX.out)
      have HO : Hid (∀ b, bizB we hs d' = b → Calls Tryd.prog 68 #[.agg #[.int .u8 we, .slice A hs.length c], .int .i64 d'] wr fun e w' => e = .returned (.bool b) ∧ Below wr.heap.size wr w') := fun b hb => open_any we A c hs d' b wr (HI.out.below HBr.out) HV.out hdd.1 hdd.2 hb
      cases hp : bizB we hs d' with
      | false =>
        have HO' := Lib.hid (HO.out false hp)
        have HN' : Hid (nthL (bizB we hs) (dys s k' (d' + s)) m = nthL (bizB we hs) (dys s k d) n) := by
          have := HN.out
          simp only [dys, nthL] at this
          rw [if_neg (by rw [hp]; decide)] at this
          exact this
        clear ha hdd hp HO
        go_wp2_with (first
          | (go_at_call 36; ((with_reducible refine (HD.out _).mono ?_); rintro x w' ⟨rfl, rfl⟩))
          | (go_at_call 68; ((with_reducible refine HO'.out.mono ?_); rintro x w2 ⟨rfl, hb⟩; have B2 := Lib.hid (HBr.out.trans (hb.mono HBr.out.size)); have C2 := Lib.hid (HCr.out.below hb); clear hb)))
        go_roundw
        case rel => exact ⟨k', d' + s, m, rfl, rfl, HX, m0, m1, HN', B2, C2⟩
        case measure => rw [HM.out, HM'.out]; omega
      | true =>
        have HO' := Lib.hid (HO.out true hp)
        by_cases hm : m - 1 = 0
        · have hm' : (m - 1 == 0) = true := beq_iff_eq.2 hm
          have HR : Hid (v = d' ∧ e = 0) := by
            have := HN.out
            simp only [dys, nthL] at this
            rw [if_pos hp, if_pos hm] at this
            rw [← H1.out, ← H2.out, ← this]; exact ⟨rfl, rfl⟩
          clear ha hdd hp HO hm
          go_wp2_with (first
            | (go_at_call 36; ((with_reducible refine (HD.out _).mono ?_); rintro x w' ⟨rfl, rfl⟩))
            | (go_at_call 68; ((with_reducible refine HO'.out.mono ?_); rintro x w2 ⟨rfl, hb⟩; have B2 := Lib.hid (HBr.out.trans (hb.mono HBr.out.size)); have C2 := Lib.hid (HCr.out.below hb); clear hb)))
          go_ret2
          exact ⟨by rw [HR.out.1, HR.out.2]; rfl, B2.out⟩
        · have hm' : (m - 1 == 0) = false := by rw [beq_eq_false_iff_ne]; exact hm
          have HN' : Hid (nthL (bizB we hs) (dys s k' (d' + s)) (m - 1) = nthL (bizB we hs) (dys s k d) n) := by
            have := HN.out
            simp only [dys, nthL] at this
            rw [if_pos hp, if_neg hm] at this
            exact this
          have HMM : Hid (1 ≤ m - 1 ∧ m - 1 ≤ n) := ⟨by omega, by omega⟩
          clear ha hdd hp HO hm
          go_wp2_with (first
            | (go_at_call 36; ((with_reducible refine (HD.out _).mono ?_); rintro x w' ⟨rfl, rfl⟩))
            | (go_at_call 68; ((with_reducible refine HO'.out.mono ?_); rintro x w2 ⟨rfl, hb⟩; have B2 := Lib.hid (HBr.out.trans (hb.mono HBr.out.size)); have C2 := Lib.hid (HCr.out.below hb); clear hb)))
          go_roundw
          case rel => exact ⟨k', d' + s, m - 1, rfl, rfl, HX, HMM.out.1, HMM.out.2, HN', B2, C2⟩
          case measure => rw [HM.out, HM'.out]; omega

theorem beq_flip (a b : Int) : (a == b) = decide (b = a) := by
  by_cases h : a = b
  · subst h; simp
  · rw [beq_eq_false_iff_ne.2 h, decide_eq_false (fun e => h e.symm)]
set_option maxHeartbeats 800000 in
theorem month_any (a b : Int) (S : Int → Bool) (r : Bool) (hS : SmIs b S) (a0 : 0 ≤ a) (a1 : a ≤ 99999) (b0 : 0 ≤ b) (b1 : b ≤ 99999) (hr : S a = r) (w : World) :
    Calls Tryd.prog 55 #[.int .i64 a, .int .i64 b] w fun e w' => e = .returned (.bool r) ∧ w = w' := by
  obtain ⟨y, m, d, h⟩ := isDate_of a a0
  obtain ⟨y', m', d', h'⟩ := isDate_of b b0
  have HA := Lib.hid (refParts_in y m d a h a1 w)
  have HB := Lib.hid (refParts_in y' m' d' b h' b1 w)
  have HS : Hid (r = (decide (y' = y) && decide (m' = m))) := by show _ = _; rw [← hr]; exact hS _ _ _ _ _ _ _ h' h
  clear h h' hS hr
  go_enter Tryd.func55, Tryd.ntmps55
  go_wp2_with (first
    | (go_at_call 65; ((with_reducible refine HA.out.mono ?_); rintro e w' ⟨rfl, rfl⟩))
    | (go_at_call 65; ((with_reducible refine HB.out.mono ?_); rintro e w' ⟨rfl, rfl⟩)))
  all_goals
    go_ret
    refine ⟨ret_boolD ?_, rfl⟩
    rw [HS.out]
    rw [← beq_flip, ← beq_flip]
    simp_all
end Go.Proofs.YtfheeipggedaiaaDoor

/- Layer 4: the program's walks: valid calendars, and the exported functions. -/
import Derived.Test.YtfheeipggedaiaaDoorCalE
namespace Go.Proofs.YtfheeipggedaiaaDoor
open Go Go.RowKit

/-- What the walks are told of a calendar that comes in. -/
structure CalIn (w : World) (we : Int) (A : Option Addr) (c : Nat) (hs : List Int) : Prop where
  w0 : 0 ≤ we
  w1 : we ≤ 255
  rd : HsA w A hs
  len : hs.length ≤ 9223372036854775807
  nn : A = none → c = 0
theorem CalIn.below {w w' : World} {we : Int} {A : Option Addr} {c : Nat} {hs : List Int} (h : CalIn w we A c hs) (hb : Below w.heap.size w w') : CalIn w' we A c hs := ⟨h.w0, h.w1, h.rd.below hb, h.len, h.nn⟩
def valE (we : Int) (hs : List Int) : Int := if valB we hs then 0 else 8

set_option maxRecDepth 100000 in
set_option maxHeartbeats 1600000 in
theorem check_anyC (we : Int) (A : Option Addr) (c : Nat) (hs : List Int) (v : Int) (w : World) (h : CalIn w we A c hs) (hv : valE we hs = v) :
    Calls Tryd.prog 30 #[.agg #[.int .u8 we, .slice A hs.length c]] w fun e w' => e = .returned (.int .i64 v) ∧ Below w.heap.size w w' := by
  obtain ⟨w0, w1, hrd, hlen, _⟩ := h
  have hC := CalAt.new (we := we) (c := c) hrd
  have HB0 := Lib.hid ((Below.refl _ w).alloc (Nat.le_refl _) (.cells #[.int .u8 we, .slice A hs.length c] 25))
  by_cases hw : we ≤ 126
  · by_cases hl : hs.length ≤ 1000
    · have HV : Hid ((if ordB hs then 0 else 8) = v) := by
        show _ = _
        rw [← hv]; unfold valE valB
        rw [decide_eq_true hw, decide_eq_true hl]; rfl
      have HR := Lib.hid hrd
      have hl' : (hs.length : Int) ≤ 1000 := by omega
      clear hv hl hrd hC hlen
      go_enter Tryd.func30, Tryd.ntmps30
      go_wp2
      go_loopw [17] (fun i wr => ∃ k : Nat, k ≤ hs.length ∧ i = .int .i64 k ∧ Hid (okK hs k = true) ∧ wr = w.alloc (.cells #[.int .u8 we, .slice A hs.length c] 25)) (fun i _ => hs.length - (intOf i).toNat)
      case atStart => exact ⟨0, by omega, rfl, rfl, rfl⟩
      case round =>
        obtain ⟨k, hk, rfl, hok, rfl⟩ := hrel
        by_cases hlt : k < hs.length
        · obtain ⟨b, o, rfl, hbsz, hcell⟩ := HR.out.get hlt
          have hck := hcell k hlt
          have HS : Hid (okK hs (k + 1) = (dayB (hs.getD k 0) && (decide (k = 0) || decide (hs.getD (k - 1) 0 < hs.getD k 0)))) := by
            show _ = _
            rw [okK, hok.out]; rfl
          have HBAD : Hid (okK hs (k + 1) = false → 8 = v) := fun hx => by
            have : ordB hs = false := by
              rw [← okK_ordB]
              by_cases e : okK hs hs.length = true
              · have := okK_le hs (by omega : k + 1 ≤ hs.length) e
                rw [this] at hx; cases hx
              · simpa using e
            rw [← HV.out, this]; rfl
          have HD := Lib.hid (isDayC_any (hs.getD k 0) _ rfl)
          cases k with
          | zero =>
            clear hcell
            rw [Nat.add_zero] at hck
            generalize hs.getD 0 0 = x at *
            cases hd : dayB x with
            | false =>
              rw [hd] at HD HS
              clear hd
              go_wp2_with (go_at_call 52; ((with_reducible refine (HD.out _).mono ?_); rintro e w' ⟨rfl, rfl⟩))
              go_ret
              exact ⟨ret_intD (HBAD.out HS.out), HB0.out⟩
            | true =>
              rw [hd] at HD HS
              clear hd
              go_wp2_with (go_at_call 52; ((with_reducible refine (HD.out _).mono ?_); rintro e w' ⟨rfl, rfl⟩))
              go_round
              case rel => exact ⟨1, by omega, rfl, HS.out, by first | rfl | trivial⟩
              case measure => simp [intOf]; omega
          | succ j =>
            have hpr := hcell j (by omega)
            have e1 : ((j + 1 : Nat) : Int) = (j : Int) + 1 := by omega
            have e2 : j + 1 - 1 = j := by omega
            rw [e1]
            rw [e2] at HS
            have e3 : decide (j + 1 = 0) = false := by simp
            rw [e3, Bool.false_or] at HS
            clear hcell
            generalize hs.getD (j + 1) 0 = x at *
            generalize hs.getD j 0 = y at *
            have hlt2 : j < hs.length := by omega
            cases hd : dayB x with
            | false =>
              rw [hd] at HD HS
              clear hd
              go_wp2_with (go_at_call 52; ((with_reducible refine (HD.out _).mono ?_); rintro e w' ⟨rfl, rfl⟩))
              go_ret
              exact ⟨ret_intD (HBAD.out HS.out), HB0.out⟩
            | true =>
              rw [hd] at HD HS
              clear hd
              by_cases hyx : x ≤ y
              · have hs2 : decide (y < x) = false := decide_eq_false (by omega)
                rw [hs2] at HS
                clear hs2
                go_wp2_with (go_at_call 52; ((with_reducible refine (HD.out _).mono ?_); rintro e w' ⟨rfl, rfl⟩))
                go_ret
                exact ⟨ret_intD (HBAD.out HS.out), HB0.out⟩
              · have hs2 : decide (y < x) = true := decide_eq_true (by omega)
                rw [hs2] at HS
                clear hs2
                go_wp2_with (go_at_call 52; ((with_reducible refine (HD.out _).mono ?_); rintro e w' ⟨rfl, rfl⟩))
                go_round
                case rel => exact ⟨j + 1 + 1, by omega, by go_num, HS.out, by first | rfl | trivial⟩
                case measure => simp [intOf]; omega
        · obtain rfl : k = hs.length := by omega
          have HF : Hid (v = 0) := by
            show _ = _
            have := hok.out
            rw [okK_ordB] at this
            rw [← HV.out, this]; rfl
          go_wp2
          go_ret
          exact ⟨ret_intD HF.out.symm, HB0.out⟩
    · have HV : Hid (8 = v) := by
        show _ = _
        rw [← hv]; unfold valE valB
        rw [decide_eq_false hl]; simp
      have hl' : 1000 < (hs.length : Int) := by omega
      clear hv hl hrd hC
      go_enter Tryd.func30, Tryd.ntmps30
      go_wp2
      go_ret
      exact ⟨ret_intD HV.out, HB0.out⟩
  · have HV : Hid (8 = v) := by
      show _ = _
      rw [← hv]; unfold valE valB
      rw [decide_eq_false hw]; rfl
    have hw' : 127 ≤ we := by omega
    clear hv hw hrd hC hlen
    go_enter Tryd.func30, Tryd.ntmps30
    go_wp2
    go_ret
    exact ⟨ret_intD HV.out, HB0.out⟩

def chkE (we : Int) (hs ds : List Int) : Int := if valB we hs then (if ds.all dayB then 0 else 2) else 8
set_option maxRecDepth 100000 in
set_option maxHeartbeats 1600000 in
theorem checked_any (we : Int) (A : Option Addr) (c : Nat) (hs : List Int) (D : Option Addr) (n : Nat) (ds : List Int) (v : Int) (w : World) (h : CalIn w we A c hs) (hd : HsA w D ds) (hn : ds.length ≤ 1000) (hv : chkE we hs ds = v) :
    Calls Tryd.prog 38 #[.agg #[.int .u8 we, .slice A hs.length c], .slice D ds.length n] w fun e w' => e = .returned (.int .i64 v) ∧ Below w.heap.size w w' := by
  obtain ⟨W1, hW1⟩ : ∃ W1, w.alloc (.cells #[.int .u8 we, .slice A hs.length c] 25) = W1 := ⟨_, rfl⟩
  have HB1 : Hid (Below w.heap.size w W1) := by show Below _ _ _; rw [← hW1]; exact (Below.refl _ w).alloc (Nat.le_refl _) _
  have hC : CalAt W1 w.heap.size we A c hs := by rw [← hW1]; exact CalAt.new h.rd
  have HK := Lib.hid (check_anyC we A c hs _ W1 (h.below HB1.out) rfl)
  have hn' : (ds.length : Int) ≤ 1000 := by omega
  have c0 := hC.c0
  have c1 := hC.c1
  cases hval : valB we hs with
  | false =>
    have HV : Hid (v = 8) := by show _ = _; rw [← hv]; unfold chkE; rw [hval]; rfl
    have e1 : valE we hs = 8 := by unfold valE; rw [hval]; rfl
    rw [e1] at HK
    clear hv h hd e1 hval
    go_enter Tryd.func38, Tryd.ntmps38
    go_wp2_with (first
      | (go_at_call 30; ((with_reducible refine HK.out.mono ?_); rintro e w' ⟨rfl, hb⟩)))
    go_ret
    exact ⟨ret_intD HV.out.symm, HB1.out.trans (hb.mono HB1.out.size)⟩
  | true =>
    have HV : Hid ((if ds.all dayB then 0 else 2) = v) := by show _ = _; rw [← hv]; unfold chkE; rw [hval]; rfl
    have e1 : valE we hs = 0 := by unfold valE; rw [hval]; rfl
    rw [e1] at HK
    have HD : Hid (HsA W1 D ds) := hd.below HB1.out
    clear hv h hd e1 hval
    go_enter Tryd.func38, Tryd.ntmps38
    go_wp2_with (first
      | (go_at_call 30; ((with_reducible refine HK.out.mono ?_); rintro e w2 ⟨rfl, hb⟩; have B2 := Lib.hid (HB1.out.trans (hb.mono HB1.out.size)); have HD2 : Hid (HsA w2 D ds) := HD.out.below hb; clear hb)))
    clear c0 c1 hC hW1
    go_loopw [15] (fun i wr => ∃ k : Nat, k ≤ ds.length ∧ i = .int .i64 k ∧ Hid ((ds.take k).all dayB = true) ∧ wr = w2) (fun i _ => ds.length - (intOf i).toNat)
    case atStart => exact ⟨0, by omega, rfl, rfl, rfl⟩
    case round =>
      obtain ⟨k, hk, rfl, hok, rfl⟩ := hrel
      by_cases hlt : k < ds.length
      · obtain ⟨b, o, rfl, hbsz, hcell⟩ := HD2.out.get hlt
        have hck := hcell k hlt
        have HS : Hid ((ds.take (k + 1)).all dayB = dayB (ds.getD k 0)) := by
          show _ = _
          rw [List.take_succ_eq_append_getElem hlt, List.all_append, hok.out, List.getD_eq_getElem?_getD, List.getElem?_eq_getElem hlt]; simp
        have HBAD : Hid (dayB (ds.getD k 0) = false → 2 = v) := fun hx => by
          have : ds.all dayB = false := by
            rw [← Bool.not_eq_true, List.all_eq_true]
            intro hall
            have := hall (ds.getD k 0) (by rw [List.getD_eq_getElem?_getD, List.getElem?_eq_getElem hlt]; simp)
            rw [hx] at this; cases this
          rw [← HV.out, this]; rfl
        have HDy := Lib.hid (isDayC_any (ds.getD k 0) _ rfl)
        clear hcell HD HD2
        generalize ds.getD k 0 = x at *
        cases hd : dayB x with
        | false =>
          rw [hd] at HDy
          have HX := Lib.hid hd
          clear hd
          go_wp2_with (go_at_call 52; ((with_reducible refine (HDy.out _).mono ?_); rintro e w' ⟨rfl, rfl⟩))
          go_ret
          exact ⟨ret_intD (HBAD.out HX.out), B2.out⟩
        | true =>
          rw [hd] at HDy HS
          clear hd
          go_wp2_with (go_at_call 52; ((with_reducible refine (HDy.out _).mono ?_); rintro e w' ⟨rfl, rfl⟩))
          go_round
          case rel => exact ⟨k + 1, by omega, by go_num, HS.out, by first | rfl | trivial⟩
          case measure => simp [intOf]; omega
      · obtain rfl : k = ds.length := by omega
        have HF : Hid (0 = v) := by
          show _ = _
          have := hok.out
          rw [List.take_length] at this
          rw [← HV.out, this]; rfl
        go_wp2
        go_ret
        exact ⟨ret_intD HF.out, B2.out⟩
end Go.Proofs.YtfheeipggedaiaaDoor

/- Layer 4: the reference's walks. -/
import Derived.Test.YtfheeipggedaiaaDoorCalG
import Derived.Test.YtfheeipggedaiaaDoorDatE
namespace Go.Proofs.YtfheeipggedaiaaDoor
open Go Go.RowKit

theorem below_dn {B : Nat} {a w : World} (h : Below B a w) (n : Nat) : Below B a (w.drewN n) := ⟨h.os, h.tape, h.output, h.size, h.block⟩
theorem CalAt.dn {w : World} {B : Nat} {we : Int} {A : Option Addr} {c : Nat} {hs : List Int} (h : CalAt w B we A c hs) (n : Nat) : CalAt (w.drewN n) B we A c hs := h.below (below_dn (Below.refl _ _) n)
theorem quiet_of' {P : Program} {f : FuncId} {args : Array Value} {w : World} {n : Nat} {v : Value}
    (h : Calls P f args (w.drewN n) fun e w' => e = .returned v ∧ w.drewN n = w') : Calls P f args (w.drewN n) fun e w'' => e = .returned v ∧ ∃ m, w'' = w.drewN m :=
  h.mono fun _ _ ⟨he, hm⟩ => ⟨he, n, hm.symm⟩

theorem half_step (we : Int) (i : Nat) : we / 2 ^ i / 2 = we / 2 ^ (i + 1) := by
  rw [Int.ediv_ediv_of_nonneg (Int.le_of_lt (Int.pow_pos (by decide))), Int.pow_succ]
theorem tdiv_two (x : Int) (h : 0 ≤ x) : x.tdiv 2 = x / 2 := Int.tdiv_eq_ediv_of_nonneg h

set_option maxHeartbeats 800000 in
theorem rest_any (we k : Int) (b : Bool) (h0 : 0 ≤ we) (h1 : we ≤ 255) (k0 : 0 ≤ k) (k1 : k ≤ 6) (hb : decide (we / 2 ^ k.toNat % 2 = 1) = b) (w : World) :
    Calls Tryd.prog 74 #[.int .u8 we, .int .i64 k] w fun e w' => e = .returned (.bool b) ∧ w = w' := by
  have HB := Lib.hid hb
  clear hb
  go_enter Tryd.func74, Tryd.ntmps74
  go_wp2
  go_loop [5, 6] (fun n i => ∃ j : Nat, (j : Int) ≤ k ∧ i = .int .i64 j ∧ n = .int .i64 (we / 2 ^ j)) (fun _ i => (k - intOf i).toNat)
  case atStart => exact ⟨0, by omega, rfl, by simp⟩
  case round =>
    obtain ⟨j, hj, rfl, rfl⟩ := hrel
    have hbd := shr_bd we j h0 h1
    have HN := Lib.hid (half_step we j)
    have HX : Hid (¬ (j : Int) < k → decide (we / 2 ^ j % 2 = 1) = b) := fun hn => by
      have : k.toNat = j := by omega
      rw [← this]; exact HB.out
    generalize we / 2 ^ j = x at *
    obtain ⟨x0, x1⟩ := hbd
    have hq := tdiv_two x x0
    by_cases hlt : (j : Int) < k
    · go_wp2
      go_round
      case rel => exact ⟨j + 1, by omega, by go_num, int_eqD (by rw [← HN.out])⟩
      case measure => simp [intOf]; omega
    · have HE := Lib.hid (HX.out hlt)
      have hm : x.tmod 2 = x % 2 := Int.tmod_eq_emod_of_nonneg x0
      go_wp2
      go_ret
      refine ⟨ret_boolD ?_, rfl⟩
      rw [← HE.out, Bool.eq_iff_iff]; simp

/-- The reference's loop over the holidays. -/
def notB (hs : List Int) (d : Int) : Nat → Bool
  | 0 => true
  | k + 1 => notB hs d k && !decide (hs.getD k 0 = d)
theorem contains_of_lt {hs : List Int} (ho : ordB hs = true) (d : Int) (k : Nat) (hk : k ≤ hs.length) (hlow : ∀ j, j < k → hs.getD j 0 ≠ d) (hup : k < hs.length → d < hs.getD k 0) : hs.contains d = false := by
  rw [← Bool.not_eq_true, List.contains_iff_mem]
  intro hm
  obtain ⟨j, hj, he⟩ := List.getElem_of_mem hm
  have hje : hs.getD j 0 = d := by rw [List.getD_eq_getElem?_getD, List.getElem?_eq_getElem hj]; exact he
  by_cases hjk : j < k
  · exact hlow j hjk hje
  · have hkl : k < hs.length := by omega
    have h2 := hup hkl
    by_cases e : j = k
    · subst e; omega
    · have := List.pairwise_iff_getElem.1 (ordB_pair ho) k j hkl hj (by omega)
      rw [List.getD_eq_getElem?_getD, List.getElem?_eq_getElem hkl] at h2
      simp at h2
      omega

set_option maxRecDepth 100000 in
set_option maxHeartbeats 1600000 in
theorem open_any (we : Int) (A : Option Addr) (c : Nat) (hs : List Int) (d : Int) (b : Bool) (w : World) (h : CalIn w we A c hs) (hv : valB we hs = true) (d0 : 0 ≤ d) (d1 : d ≤ 99999) (hb : bizB we hs d = b) :
    Calls Tryd.prog 68 #[.agg #[.int .u8 we, .slice A hs.length c], .int .i64 d] w fun e w' => e = .returned (.bool b) ∧ Below w.heap.size w w' := by
  simp only [valB, Bool.and_eq_true, decide_eq_true_eq] at hv
  obtain ⟨⟨v0, v1⟩, v2⟩ := hv
  obtain ⟨W1, hW1⟩ : ∃ W1, w.alloc (.cells #[.int .u8 we, .slice A hs.length c] 25) = W1 := ⟨_, rfl⟩
  have HB1 : Hid (Below w.heap.size w W1) := by show Below _ _ _; rw [← hW1]; exact bel1 _ _
  have hC : CalAt W1 w.heap.size we A c hs := by rw [← hW1]; exact CalAt.new h.rd
  have HC := Lib.hid hC
  have hl : (hs.length : Int) ≤ 1000 := by omega
  have c0 := hC.c0
  have c1 := hC.c1
  have hm : d.tmod 7 = d % 7 := Int.tmod_eq_emod_of_nonneg d0
  have HO := Lib.hid v2
  obtain ⟨k, hk⟩ : ∃ k, d % 7 = k := ⟨_, rfl⟩
  have hR : ∀ b, offB we d = b → ∀ w, Calls Tryd.prog 74 #[.int .u8 we, .int .i64 k] w fun e w' => e = .returned (.bool b) ∧ w = w' := fun b hb w => by
    refine rest_any we k b h.w0 h.w1 (by omega) (by omega) ?_ w
    unfold offB at hb; rw [hk] at hb; exact hb
  rw [hk] at hm
  have HB := Lib.hid hb
  clear hC h hb hk v0 v1 v2
  cases hof : offB we d with
  | true =>
    have HR := Lib.hid (hR true hof)
    have HF : Hid (false = b) := by show _ = _; rw [← HB.out]; unfold bizB; rw [hof]; rfl
    clear hof hR
    go_enter Tryd.func68, Tryd.ntmps68
    go_wp2_with (go_at_call 74; ((with_reducible refine (HR.out _).mono ?_); rintro e w' ⟨rfl, rfl⟩))
    go_ret
    exact ⟨ret_boolD HF.out, HB1.out⟩
  | false =>
    have HR := Lib.hid (hR false hof)
    have HF : Hid ((!hs.contains d) = b) := by show _ = _; rw [← HB.out]; unfold bizB; rw [hof]; rfl
    clear hof hR
    go_enter Tryd.func68, Tryd.ntmps68
    go_wp2_with (go_at_call 74; ((with_reducible refine (HR.out _).mono ?_); rintro e w' ⟨rfl, rfl⟩))
    go_loopw [5] (fun i wr => ∃ k : Nat, k ≤ hs.length ∧ i = .int .i64 k ∧ Hid (∀ j, j < k → hs.getD j 0 ≠ d) ∧ wr = W1) (fun i _ => hs.length - (intOf i).toNat)
    case atStart => exact ⟨0, by omega, rfl, fun j hj => absurd hj (by omega), rfl⟩
    case round =>
      obtain ⟨k, hk, rfl, hlow, rfl⟩ := hrel
      by_cases hlt : k < hs.length
      · obtain ⟨b1, o, rfl, hbsz, hcell⟩ := HC.out.hs.get hlt
        have hck := hcell k hlt
        have HN : Hid (hs.getD k 0 ≠ d → ∀ j, j < k + 1 → hs.getD j 0 ≠ d) := fun hne j hj => by
          by_cases e : j = k
          · subst e; exact hne
          · exact hlow.out j (by omega)
        have HIN : Hid (hs.getD k 0 = d → hs.contains d = true) := fun he => by
          rw [List.contains_iff_mem, ← he, List.getD_eq_getElem?_getD, List.getElem?_eq_getElem hlt]; simp
        have HUP : Hid (d < hs.getD k 0 → hs.contains d = false) := fun hu => contains_of_lt HO.out d k (by omega) hlow.out (fun _ => hu)
        clear hcell
        generalize hs.getD k 0 = x at *
        by_cases hxd : x ≤ d
        · by_cases he : x = d
          · subst he
            have HT := Lib.hid (HIN.out rfl)
            go_wp2
            go_ret
            exact ⟨ret_boolD (by rw [← HF.out, HT.out]; rfl), HB1.out⟩
          · have HN2 := Lib.hid (HN.out he)
            have hxe : (x == d) = false := by rw [beq_eq_false_iff_ne]; exact he
            go_wp2
            go_round
            case rel => exact ⟨k + 1, by omega, by go_num, HN2.out, by first | rfl | trivial⟩
            case measure => simp [intOf]; omega
        · have HT := Lib.hid (HUP.out (by omega))
          have hxd' : d < x := by omega
          go_wp2
          go_ret
          exact ⟨ret_boolD (by rw [← HF.out, HT.out]; rfl), HB1.out⟩
      · obtain rfl : k = hs.length := by omega
        have HT := Lib.hid (contains_of_lt HO.out d hs.length (by omega) hlow.out (fun h => absurd h (by omega)))
        go_wp2
        go_ret
        exact ⟨ret_boolD (by rw [← HF.out, HT.out]; rfl), HB1.out⟩

theorem dayR_any (n : Int) (b : Bool) (h : dayB n = b) (w : World) :
    Calls Tryd.prog 36 #[.int .i64 n] w fun e w' => e = .returned (.bool b) ∧ w = w' :=
  day_any n b (by rw [← h, dayB_iff]) w

set_option maxRecDepth 100000 in
set_option maxHeartbeats 3200000 in
theorem valid_any (we : Int) (A : Option Addr) (c : Nat) (hs : List Int) (v : Bool) (w : World) (h : CalIn w we A c hs) (hv : valB we hs = v) :
    Calls Tryd.prog 35 #[.agg #[.int .u8 we, .slice A hs.length c]] w fun e w' => e = .returned (.bool v) ∧ Below w.heap.size w w' := by
  obtain ⟨w0, w1, hrd, hlen, _⟩ := h
  obtain ⟨W1, hW1⟩ : ∃ W1, w.alloc (.cells #[.int .u8 we, .slice A hs.length c] 25) = W1 := ⟨_, rfl⟩
  have HB1 : Hid (Below w.heap.size w W1) := by show Below _ _ _; rw [← hW1]; exact bel1 _ _
  have hC : CalAt W1 w.heap.size we A c hs := by rw [← hW1]; exact CalAt.new hrd
  have HC := Lib.hid hC
  have c0 := hC.c0
  have c1 := hC.c1
  clear hC
  by_cases hw : we ≤ 126
  · by_cases hl : hs.length ≤ 1000
    · have HV : Hid (ordB hs = v) := by
        show _ = _
        rw [← hv]; unfold valB
        rw [decide_eq_true hw, decide_eq_true hl]; rfl
      have hl' : (hs.length : Int) ≤ 1000 := by omega
      clear hv hl hrd hlen
      go_enter Tryd.func35, Tryd.ntmps35
      go_wp2
      clear c0 c1 hW1
      go_loopw [3] (fun i wr => ∃ k : Nat, k ≤ hs.length ∧ i = .int .i64 k ∧ Hid (okK hs k = true) ∧ Hid (Below w.heap.size w wr) ∧ Hid (CalAt wr w.heap.size we A c hs)) (fun i _ => hs.length - (intOf i).toNat)
      case atStart => exact ⟨0, by omega, rfl, rfl, HB1, HC⟩
      case round =>
        obtain ⟨k, hk, rfl, hok, HBr, HCr⟩ := hrel
        have c0 := HCr.out.c0
        have c1 := HCr.out.c1
        by_cases hlt : k < hs.length
        · obtain ⟨b, o, rfl, hbsz, hcell⟩ := HCr.out.hs.get hlt
          have hck := hcell k hlt
          have HS : Hid (okK hs (k + 1) = (dayB (hs.getD k 0) && (decide (k = 0) || decide (hs.getD (k - 1) 0 < hs.getD k 0)))) := by
            show _ = _
            rw [okK, hok.out]; rfl
          have HBAD : Hid (okK hs (k + 1) = false → false = v) := fun hx => by
            have : ordB hs = false := by
              rw [← okK_ordB]
              by_cases e : okK hs hs.length = true
              · have := okK_le hs (by omega : k + 1 ≤ hs.length) e
                rw [this] at hx; cases hx
              · simpa using e
            rw [← HV.out, this]
          have HD := Lib.hid (dayR_any (hs.getD k 0) _ rfl)
          cases k with
          | zero =>
            clear hcell
            rw [Nat.add_zero] at hck
            generalize hs.getD 0 0 = x at *
            cases hd : dayB x with
            | false =>
              rw [hd] at HD HS
              clear hd
              have Q := Lib.hid fun n => quiet_of' (HD.out (wr.drewN n))
              go_wp2
              go_quiet ((go_at_call 36; with_reducible exact Q.out _))
              go_wp2
              go_ret
              exact ⟨ret_boolD (HBAD.out HS.out), below_dn HBr.out _⟩
            | true =>
              rw [hd] at HD HS
              clear hd
              have Q := Lib.hid fun n => quiet_of' (HD.out (wr.drewN n))
              go_wp2
              go_quiet ((go_at_call 36; with_reducible exact Q.out _))
              have HBN := Lib.hid (below_dn HBr.out nq)
              have HCN := Lib.hid (HCr.out.dn nq)
              go_wp2
              go_roundw
              case rel => exact ⟨1, by omega, by first | rfl | simp, HS.out, HBN, HCN⟩
              case measure => simp [intOf]; omega
          | succ j =>
            have hpr := hcell j (by omega)
            have e1 : ((j + 1 : Nat) : Int) = (j : Int) + 1 := by omega
            have e2 : j + 1 - 1 = j := by omega
            rw [e1]
            rw [e2] at HS
            have e3 : decide (j + 1 = 0) = false := by simp
            rw [e3, Bool.false_or] at HS
            clear hcell
            generalize hs.getD (j + 1) 0 = x at *
            generalize hs.getD j 0 = y at *
            have hlt2 : j < hs.length := by omega
            have hi1 : (j : Int) + 1 < (hs.length : Int) := by omega
            have hi2 : (j : Int) < (hs.length : Int) := by omega
            have hp1 : (0 : Int) < (j : Int) + 1 := by omega
            have hp2 : decide ((0 : Int) < (j : Int) + 1) = true := decide_eq_true hp1
            cases hd : dayB x with
            | false =>
              rw [hd] at HD HS
              clear hd
              have Q := Lib.hid fun n => quiet_of' (HD.out (wr.drewN n))
              go_wp2
              go_quiet ((go_at_call 36; with_reducible exact Q.out _))
              go_wp2
              go_ret
              exact ⟨ret_boolD (HBAD.out HS.out), below_dn HBr.out _⟩
            | true =>
              rw [hd] at HD HS
              clear hd
              have Q := Lib.hid fun n => quiet_of' (HD.out (wr.drewN n))
              by_cases hyx : x ≤ y
              · have hs2 : decide (y < x) = false := decide_eq_false (by omega)
                have hs3 : decide (x ≤ y) = true := decide_eq_true (by omega)
                rw [hs2] at HS
                clear hs2
                go_wp2
                go_quiet ((go_at_call 36; with_reducible exact Q.out _))
                go_wp2
                go_ret
                exact ⟨ret_boolD (HBAD.out HS.out), below_dn HBr.out _⟩
              · have hs2 : decide (y < x) = true := decide_eq_true (by omega)
                have hs3 : decide (x ≤ y) = false := decide_eq_false (by omega)
                rw [hs2] at HS
                clear hs2
                go_wp2
                go_quiet ((go_at_call 36; with_reducible exact Q.out _))
                have HBN := Lib.hid (below_dn HBr.out nq)
                have HCN := Lib.hid (HCr.out.dn nq)
                go_wp2
                go_roundw
                case rel => exact ⟨j + 1 + 1, by omega, by go_num, HS.out, HBN, HCN⟩
                case measure => simp [intOf]; omega
        · obtain rfl : k = hs.length := by omega
          have HF : Hid (true = v) := by
            show _ = _
            have := hok.out
            rw [okK_ordB] at this
            rw [← HV.out, this]
          go_wp2
          go_ret
          exact ⟨ret_boolD HF.out, HBr.out⟩
    · have HV : Hid (false = v) := by
        show _ = _
        rw [← hv]; unfold valB
        rw [decide_eq_false hl]; simp
      have hl' : 1000 < (hs.length : Int) := by omega
      clear hv hl hrd
      go_enter Tryd.func35, Tryd.ntmps35
      go_wp2
      go_ret
      exact ⟨ret_boolD HV.out, HB1.out⟩
  · have HV : Hid (false = v) := by
      show _ = _
      rw [← hv]; unfold valB
      rw [decide_eq_false hw]; rfl
    have hw' : 126 < we := by omega
    clear hv hw hrd hlen
    go_enter Tryd.func35, Tryd.ntmps35
    go_wp2
    go_ret
    exact ⟨ret_boolD HV.out, HB1.out⟩
end Go.Proofs.YtfheeipggedaiaaDoor

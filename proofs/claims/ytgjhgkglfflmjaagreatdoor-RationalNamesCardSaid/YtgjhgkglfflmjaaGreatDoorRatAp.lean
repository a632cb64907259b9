/- The walks of the reference of layer 2: Sum, raised, Power. -/
import Derived.Test.YtgjhgkglfflmjaaGreatDoorRatAj
import Derived.Test.YtgjhgkglfflmjaaGreatDoorRatAo
namespace Go.Proofs.YtgjhgkglfflmjaaGreatDoor
open Go Go.RowKit

set_option maxRecDepth 100000 in
set_option maxHeartbeats 3200000 in
theorem rsumref_walk (A : Option Addr) (c : Nat) (ss : List ByteArray) (w : World) (hA : SlA Value.string w A ss) (hs : ss.length ≤ 1000) (hz : ∀ s ∈ ss, s.size ≤ 1048576) (R : ByteArray) (cc : Int)
    (HB : ∀ k (h : k < ss.length), ¬ chkR ss[k].data.toList = 0 → (∀ j (hj : j < k), chkR ss[j].data.toList = 0) → R = ⟨#[]⟩ ∧ cc = chkR ss[k].data.toList)
    (HO : ∀ qs : List Rat, ss = qs.map rq → (∀ q ∈ qs, Sml q) → cc = (sumS 0 qs).2 ∧ (cc = 0 → R = rq (sumS 0 qs).1) ∧ (¬ cc = 0 → R = ⟨#[]⟩)) :
    Calls Tryz.prog 31 #[.slice A ss.length c] w (StE R cc w) := by
  have HBB := Lib.hid HB
  have HOO := Lib.hid HO
  have HZ := Lib.hid hz
  clear HB hz HO
  go_enter Tryz.func31, Tryz.ntmps31
  go_wp2
  go_loopw [4] (fun i wr => ∃ (qs : List Rat), qs.length ≤ ss.length ∧ i = .int .i64 qs.length ∧ Hid (ss.take qs.length = qs.map rq) ∧ Hid (∀ q ∈ qs, Sml q) ∧ Below w.heap.size w wr) (fun i _ => ss.length - (intOf i).toNat)
  case atStart => exact ⟨[], by simp, rfl, by simp [Hid], by simp [Hid], Below.refl _ _⟩
  case round =>
    obtain ⟨qs, hk, rfl, ht, hsm, hbel⟩ := hrel
    by_cases hlt : qs.length < ss.length
    · obtain ⟨b, o, rfl, _, hc⟩ := (hA.below hbel).get hlt
      have hxz : ss[qs.length].size ≤ 1048576 := HZ.out _ (List.getElem_mem hlt)
      have HB := Lib.hid (HBB.out qs.length hlt)
      rcases text_cases ss[qs.length] with h1 | ⟨q, hq, hsq⟩
      · obtain ⟨e1, e2⟩ := HB.out h1 (fun j hj => by
          have hm : ss[j] ∈ ss.take qs.length := by
            rw [List.mem_take_iff_getElem]
            exact ⟨j, by omega, rfl⟩
          rw [ht.out, List.mem_map] at hm
          obtain ⟨x, hx, hx2⟩ := hm
          rw [← hx2]
          exact rq_chk (hsm.out x hx))
        have JP := Lib.hid (refRCheck_any ss[qs.length] hxz)
        rw [← e2] at JP h1
        subst e1
        clear e2
        have HA2 := Lib.hid hA
        have HLT := Lib.hid hlt
        generalize hx : ss[qs.length] = x at *
        have hcz : (cc == 0) = false := by rw [beq_eq_false_iff_ne]; exact h1
        clear hA h1 HB hxz
        go_wp2_with fail
        refine (JP.out _).mono ?_
        rintro e u1 ⟨rfl, b1⟩
        have B1 := Lib.hid (bt hbel b1)
        have hc2 : u1.cell? ⟨b, o + qs.length, none⟩ = some (.string x) := by
          obtain ⟨b', o', e0, _, hc'⟩ := (HA2.out.below B1.out).get HLT.out
          obtain ⟨rfl, rfl⟩ : b = b' ∧ o = o' := by simpa using e0
          exact hc'.trans (congrArg some (congrArg Value.string hx))
        clear b1
        go_wp2_with fail
        refine (JP.out _).mono ?_
        rintro e u2 ⟨rfl, b2⟩
        have B2 := Lib.hid (bt B1.out b2)
        clear b2
        go_wp2
        go_ret2
        exact ⟨rfl, B2.out⟩
      · rw [hq] at hc
        have JP := Lib.hid (fun W => rcheck_q hsq W)
        clear hA
        go_wp2_with (go_at_call 27; refine (JP.out _).mono ?_; rintro e w2 ⟨rfl, b⟩; have B2 := Lib.hid (bt hbel b); clear b)
        go_roundw
        case rel =>
          refine ⟨qs ++ [q], by rw [List.length_append, List.length_singleton]; omega, by rw [List.length_append]; go_num, ?_, ?_, B2.out⟩
          · show ss.take (qs ++ [q]).length = _
            rw [List.length_append, List.length_singleton, take_snoc ss _ hlt, ht.out, hq, List.map_append]; rfl
          · intro x hx
            rcases List.mem_append.1 hx with g | g
            · exact hsm.out x g
            · rw [List.mem_singleton.1 g]; exact hsq
        case measure => simp [intOf]; omega
    · have hn : qs.length = ss.length := by omega
      have hss : ss = qs.map rq := by rw [← ht.out, hn, List.take_of_length_le (Nat.le_refl _)]
      have HQ := Lib.hid (HOO.out qs hss hsm.out)
      have HN := Lib.hid hn
      have HSS := Lib.hid hss
      clear HBB HOO hn hss
      go_wp2
      go_loopw [5, 6] (fun a i wl => ∃ (k : Nat) (t : Rat), k ≤ ss.length ∧ i = .int .i64 k ∧ a = .string (rq t) ∧ Hid (Sml t ∧ sumS 0 qs = sumS t (qs.drop k)) ∧ Below w.heap.size w wl) (fun _ i _ => ss.length - (intOf i).toNat)
      case atStart => exact ⟨0, 0, Nat.zero_le _, rfl, by rw [rq_zero], ⟨qd_zero.sml (by omega), rfl⟩, hbel⟩
      case round =>
        obtain ⟨k, t, hk, rfl, rfl, hst, hbel2⟩ := hrel
        have hn := HN.out
        have hss := HSS.out
        by_cases hlt : k < ss.length
        · obtain ⟨b, o, rfl, _, hc⟩ := (hA.below hbel2).get hlt
          obtain ⟨q, hq⟩ : ∃ q, qs[k]? = some q := ⟨_, List.getElem?_eq_getElem (by omega)⟩
          have hsq := hsm.out q (List.mem_of_getElem? hq)
          have hd : qs.drop k = q :: qs.drop (k + 1) := by
            obtain ⟨hkl, rfl⟩ := List.getElem?_eq_some_iff.1 hq
            exact List.drop_eq_getElem_cons hkl
          have hsk : ss[k] = rq q := by
            have h2 : ss[k]? = (qs.map rq)[k]? := by rw [← hss]
            rw [List.getElem?_map, hq, List.getElem?_eq_getElem hlt] at h2
            exact Option.some.inj h2
          rw [hsk] at hc
          have JS := Lib.hid (fun W => refradd_q hst.out.1 hsq W)
          have HS := hst.out.2
          rw [hd, sumS] at HS
          by_cases h0 : addC t q = 0
          · rw [h0, qT_ok] at JS
            rw [if_pos h0] at HS
            have HS := Lib.hid HS
            have hs2 := addC_sml h0
            clear hst hq hd hsq hsk hss hn hA
            go_wp2_with (go_at_call 24; refine (JS.out _).mono ?_; rintro e w2 ⟨rfl, b⟩; have B2 := Lib.hid (bt hbel2 b); clear b)
            go_roundw
            case rel => exact ⟨k + 1, t + q, by omega, by go_num, rfl, ⟨hs2, HS.out⟩, B2.out⟩
            case measure => simp [intOf]; omega
          · rw [qT_err h0] at JS
            rw [if_neg h0] at HS
            obtain ⟨q1, q2, q3⟩ := HQ.out
            rw [HS] at q1 q2
            simp only at q1
            have hR := q3 (by rw [q1]; exact h0)
            subst hR
            rw [← q1] at JS h0
            have hcz : (cc == 0) = false := by rw [beq_eq_false_iff_ne]; exact h0
            clear hst hq hd hsq hsk hss hn q1 q2 q3 HS HQ h0 hA
            go_wp2_with (go_at_call 24; refine (JS.out _).mono ?_; rintro e w2 ⟨rfl, b⟩; have B2 := Lib.hid (bt hbel2 b); clear b)
            go_ret2
            exact ⟨rfl, B2.out⟩
        · have hk2 : k = ss.length := by omega
          obtain ⟨hs1, HS⟩ := hst.out
          rw [hk2, ← hn, List.drop_of_length_le (Nat.le_refl _), sumS] at HS
          obtain ⟨q1, q2, q3⟩ := HQ.out
          rw [HS] at q1 q2
          simp only at q1 q2
          subst q1
          have hR := q2 rfl
          subst hR
          clear hst HQ q2 q3 HS hs1 hss hn hA
          go_wp2
          go_ret2
          exact ⟨rfl, hbel2⟩
set_option maxRecDepth 100000 in
set_option maxHeartbeats 1600000 in
theorem rsumref_many (A : Option Addr) (c n : Nat) (w : World) (hn : 1000 < n) :
    Calls Tryz.prog 31 #[.slice A n c] w (StE ⟨#[]⟩ 4 w) := by
  have h1 : decide (1000 < (n : Int)) = true := decide_eq_true (by omega)
  clear hn
  go_enter Tryz.func31, Tryz.ntmps31
  go_wp2
  go_ret2
  exact ⟨rfl, Below.refl _ _⟩
theorem rsumref_any (A : Option Addr) (c : Nat) (ss : List ByteArray) (w : World) (hA : SlA Value.string w A ss) (hz : 1000 < ss.length ∨ ∀ s ∈ ss, s.size ≤ 1048576) :
    Calls Tryz.prog 31 #[.slice A ss.length c] w (StE (sumT ss) (sumC ss) w) := by
  by_cases hs : 1000 < ss.length
  · have e : sumC ss = 4 := by unfold sumC; rw [if_pos hs]
    unfold sumT
    rw [e, if_neg (by decide)]
    exact rsumref_many A c _ w hs
  · have hz : ∀ s ∈ ss, s.size ≤ 1048576 := hz.resolve_left hs
    refine rsumref_walk A c ss w hA (by omega) hz _ _ ?_ ?_
    · intro k h hb ha
      have e := fstBad_at ss k h hb ha
      have e2 : sumC ss = chkR ss[k].data.toList := by unfold sumC; rw [if_neg hs, e, if_neg hb]
      exact ⟨by unfold sumT; rw [e2, if_neg hb], e2⟩
    · intro qs hq hsm
      have e : sumC ss = (sumS 0 qs).2 := by unfold sumC; rw [if_neg hs, hq, fstBad_ok qs hsm, if_pos rfl, qv_map]
      refine ⟨e, fun h => ?_, fun h => by unfold sumT; rw [if_neg h]⟩
      unfold sumT
      rw [if_pos h, hq, qv_map]

set_option maxRecDepth 100000 in
set_option maxHeartbeats 1600000 in
theorem raised_0 (x : Int) (hx : x.natAbs < lim) (s : ByteArray) (hs : rep x = s) (n : Nat) (hn : n ≤ 1000) (h1 : 1 < n) (hz : (s.toList == [48]) = true) (w : World) :
    Calls Tryz.prog 66 #[.string s, .int .i64 n] w (StE (lT (x ^ 1)) (lC (x ^ 1)) w) := by
  have HM := Lib.hid (fun k (h : LB (x ^ k) = true) W => refmul_l (LB_true.1 h) hx (Int.pow_succ x k).symm W)
  rw [hs] at HM
  have HX := Lib.hid hx
  have HS := Lib.hid hs
  have h1p : Hid (LB (x ^ 0) = true) := by rw [Int.pow_zero]; exact LB_of dg_one (by omega)
  obtain ⟨R, hR⟩ : ∃ R, lT (x ^ 1) = R := ⟨_, rfl⟩
  obtain ⟨cc, hcc⟩ : ∃ R, lC (x ^ 1) = R := ⟨_, rfl⟩
  rw [hR, hcc]
  have HRY : Hid (LB (x ^ 1) = true → R = rep (x ^ 1) ∧ cc = 0) := fun h => ⟨by rw [← hR, lT_ok h], by rw [← hcc, lC_ok h]⟩
  have HRN : Hid (LB (x ^ 1) = false → R = ⟨#[]⟩ ∧ cc = 14) := fun h => ⟨by rw [← hR]; unfold lT; rw [if_neg (by rw [h]; decide)], by rw [← hcc, lC_no h]⟩
  clear hx hs hR hcc
  go_enter Tryz.func66, Tryz.ntmps66
  go_wp2
  go_loopw [6, 7] (fun a i wl => ∃ k : Nat, k ≤ 1 ∧ i = .int .i64 k ∧ a = .string (rep (x ^ k)) ∧ Hid (LB (x ^ k) = true) ∧ Below w.heap.size w wl) (fun _ i _ => 1 - (intOf i).toNat)
  case atStart => exact ⟨0, Nat.zero_le _, rfl, by rw [Int.pow_zero, rep_one'], h1p, Below.refl _ _⟩
  case round =>
    obtain ⟨k, hk, rfl, rfl, hl, hbel⟩ := hrel
    by_cases hlt : k < 1
    · have JM := Lib.hid (HM.out k hl.out)
      cases h1 : LB (x ^ (k + 1))
      · have e0 := LB_mono (show k + 1 ≤ 1 by omega) HX.out h1
        obtain ⟨q1, q2⟩ := HRN.out e0
        subst q1; subst q2
        rw [lC_no h1] at JM
        generalize lT (x ^ (k + 1)) = y at JM
        generalize rep (x ^ k) = z at *
        clear e0 h1
        go_wp2_with (go_at_call 57; refine (JM.out _).mono ?_; rintro e w2 ⟨rfl, b⟩; have B2 := Lib.hid (bt hbel b); clear b)
        go_ret2
        exact ⟨rfl, B2.out⟩
      · rw [lC_ok h1, lT_ok h1] at JM
        have H1 := Lib.hid h1
        clear h1
        obtain ⟨y, hy⟩ : ∃ y, rep (x ^ (k + 1)) = y := ⟨_, rfl⟩
        rw [hy] at JM
        generalize rep (x ^ k) = z at *
        go_wp2_with (go_at_call 57; refine (JM.out _).mono ?_; rintro e w2 ⟨rfl, b⟩; have B2 := Lib.hid (bt hbel b); clear b)
        go_roundw
        case rel => exact ⟨k + 1, by omega, by go_num, by rw [hy], H1, B2.out⟩
        case measure => simp [intOf]; omega
    · have hke : k = 1 := by omega
      rw [hke] at hl
      obtain ⟨q1, q2⟩ := HRY.out hl.out
      subst q1; subst q2
      subst hke
      clear HRY HRN HM h1p hlt hk
      go_wp2
      go_ret2
      exact ⟨rfl, hbel⟩
set_option maxRecDepth 100000 in
set_option maxHeartbeats 1600000 in
theorem raised_1 (x : Int) (hx : x.natAbs < lim) (s : ByteArray) (hs : rep x = s) (n : Nat) (hn : n ≤ 1000) (h1 : 1 < n) (hz : (s.toList == [48]) = false) (ho : (s.toList == [49]) = true) (w : World) :
    Calls Tryz.prog 66 #[.string s, .int .i64 n] w (StE (lT (x ^ 1)) (lC (x ^ 1)) w) := by
  have HM := Lib.hid (fun k (h : LB (x ^ k) = true) W => refmul_l (LB_true.1 h) hx (Int.pow_succ x k).symm W)
  rw [hs] at HM
  have HX := Lib.hid hx
  have HS := Lib.hid hs
  have h1p : Hid (LB (x ^ 0) = true) := by rw [Int.pow_zero]; exact LB_of dg_one (by omega)
  obtain ⟨R, hR⟩ : ∃ R, lT (x ^ 1) = R := ⟨_, rfl⟩
  obtain ⟨cc, hcc⟩ : ∃ R, lC (x ^ 1) = R := ⟨_, rfl⟩
  rw [hR, hcc]
  have HRY : Hid (LB (x ^ 1) = true → R = rep (x ^ 1) ∧ cc = 0) := fun h => ⟨by rw [← hR, lT_ok h], by rw [← hcc, lC_ok h]⟩
  have HRN : Hid (LB (x ^ 1) = false → R = ⟨#[]⟩ ∧ cc = 14) := fun h => ⟨by rw [← hR]; unfold lT; rw [if_neg (by rw [h]; decide)], by rw [← hcc, lC_no h]⟩
  clear hx hs hR hcc
  go_enter Tryz.func66, Tryz.ntmps66
  go_wp2
  go_loopw [6, 7] (fun a i wl => ∃ k : Nat, k ≤ 1 ∧ i = .int .i64 k ∧ a = .string (rep (x ^ k)) ∧ Hid (LB (x ^ k) = true) ∧ Below w.heap.size w wl) (fun _ i _ => 1 - (intOf i).toNat)
  case atStart => exact ⟨0, Nat.zero_le _, rfl, by rw [Int.pow_zero, rep_one'], h1p, Below.refl _ _⟩
  case round =>
    obtain ⟨k, hk, rfl, rfl, hl, hbel⟩ := hrel
    by_cases hlt : k < 1
    · have JM := Lib.hid (HM.out k hl.out)
      cases h1 : LB (x ^ (k + 1))
      · have e0 := LB_mono (show k + 1 ≤ 1 by omega) HX.out h1
        obtain ⟨q1, q2⟩ := HRN.out e0
        subst q1; subst q2
        rw [lC_no h1] at JM
        generalize lT (x ^ (k + 1)) = y at JM
        generalize rep (x ^ k) = z at *
        clear e0 h1
        go_wp2_with (go_at_call 57; refine (JM.out _).mono ?_; rintro e w2 ⟨rfl, b⟩; have B2 := Lib.hid (bt hbel b); clear b)
        go_ret2
        exact ⟨rfl, B2.out⟩
      · rw [lC_ok h1, lT_ok h1] at JM
        have H1 := Lib.hid h1
        clear h1
        obtain ⟨y, hy⟩ : ∃ y, rep (x ^ (k + 1)) = y := ⟨_, rfl⟩
        rw [hy] at JM
        generalize rep (x ^ k) = z at *
        go_wp2_with (go_at_call 57; refine (JM.out _).mono ?_; rintro e w2 ⟨rfl, b⟩; have B2 := Lib.hid (bt hbel b); clear b)
        go_roundw
        case rel => exact ⟨k + 1, by omega, by go_num, by rw [hy], H1, B2.out⟩
        case measure => simp [intOf]; omega
    · have hke : k = 1 := by omega
      rw [hke] at hl
      obtain ⟨q1, q2⟩ := HRY.out hl.out
      subst q1; subst q2
      subst hke
      clear HRY HRN HM h1p hlt hk
      go_wp2
      go_ret2
      exact ⟨rfl, hbel⟩
set_option maxRecDepth 100000 in
set_option maxHeartbeats 1600000 in
theorem raised_n (x : Int) (hx : x.natAbs < lim) (s : ByteArray) (hs : rep x = s) (n : Nat) (hn : n ≤ 1000) (h1 : 1 < n) (hz : (s.toList == [48]) = false) (ho : (s.toList == [49]) = false) (w : World) :
    Calls Tryz.prog 66 #[.string s, .int .i64 n] w (StE (lT (x ^ n)) (lC (x ^ n)) w) := by
  have HM := Lib.hid (fun k (h : LB (x ^ k) = true) W => refmul_l (LB_true.1 h) hx (Int.pow_succ x k).symm W)
  rw [hs] at HM
  have HX := Lib.hid hx
  have HS := Lib.hid hs
  have h1p : Hid (LB (x ^ 0) = true) := by rw [Int.pow_zero]; exact LB_of dg_one (by omega)
  obtain ⟨R, hR⟩ : ∃ R, lT (x ^ n) = R := ⟨_, rfl⟩
  obtain ⟨cc, hcc⟩ : ∃ R, lC (x ^ n) = R := ⟨_, rfl⟩
  rw [hR, hcc]
  have HRY : Hid (LB (x ^ n) = true → R = rep (x ^ n) ∧ cc = 0) := fun h => ⟨by rw [← hR, lT_ok h], by rw [← hcc, lC_ok h]⟩
  have HRN : Hid (LB (x ^ n) = false → R = ⟨#[]⟩ ∧ cc = 14) := fun h => ⟨by rw [← hR]; unfold lT; rw [if_neg (by rw [h]; decide)], by rw [← hcc, lC_no h]⟩
  clear hx hs hR hcc
  go_enter Tryz.func66, Tryz.ntmps66
  go_wp2
  go_loopw [6, 7] (fun a i wl => ∃ k : Nat, k ≤ n ∧ i = .int .i64 k ∧ a = .string (rep (x ^ k)) ∧ Hid (LB (x ^ k) = true) ∧ Below w.heap.size w wl) (fun _ i _ => n - (intOf i).toNat)
  case atStart => exact ⟨0, Nat.zero_le _, rfl, by rw [Int.pow_zero, rep_one'], h1p, Below.refl _ _⟩
  case round =>
    obtain ⟨k, hk, rfl, rfl, hl, hbel⟩ := hrel
    by_cases hlt : k < n
    · have JM := Lib.hid (HM.out k hl.out)
      cases h1 : LB (x ^ (k + 1))
      · have e0 := LB_mono (show k + 1 ≤ n by omega) HX.out h1
        obtain ⟨q1, q2⟩ := HRN.out e0
        subst q1; subst q2
        rw [lC_no h1] at JM
        generalize lT (x ^ (k + 1)) = y at JM
        generalize rep (x ^ k) = z at *
        clear e0 h1
        go_wp2_with (go_at_call 57; refine (JM.out _).mono ?_; rintro e w2 ⟨rfl, b⟩; have B2 := Lib.hid (bt hbel b); clear b)
        go_ret2
        exact ⟨rfl, B2.out⟩
      · rw [lC_ok h1, lT_ok h1] at JM
        have H1 := Lib.hid h1
        clear h1
        obtain ⟨y, hy⟩ : ∃ y, rep (x ^ (k + 1)) = y := ⟨_, rfl⟩
        rw [hy] at JM
        generalize rep (x ^ k) = z at *
        go_wp2_with (go_at_call 57; refine (JM.out _).mono ?_; rintro e w2 ⟨rfl, b⟩; have B2 := Lib.hid (bt hbel b); clear b)
        go_roundw
        case rel => exact ⟨k + 1, by omega, by go_num, by rw [hy], H1, B2.out⟩
        case measure => simp [intOf]; omega
    · have hke : k = n := by omega
      rw [hke] at hl
      obtain ⟨q1, q2⟩ := HRY.out hl.out
      subst q1; subst q2
      subst hke
      clear HRY HRN HM h1p hlt hk
      go_wp2
      go_ret2
      exact ⟨rfl, hbel⟩
set_option maxRecDepth 100000 in
set_option maxHeartbeats 1600000 in
theorem raised_s (x : Int) (hx : x.natAbs < lim) (s : ByteArray) (hs : rep x = s) (n : Nat) (hn : n ≤ 1000) (h1 : n ≤ 1) (w : World) :
    Calls Tryz.prog 66 #[.string s, .int .i64 n] w (StE (lT (x ^ n)) (lC (x ^ n)) w) := by
  have HM := Lib.hid (fun k (h : LB (x ^ k) = true) W => refmul_l (LB_true.1 h) hx (Int.pow_succ x k).symm W)
  rw [hs] at HM
  have HX := Lib.hid hx
  have HS := Lib.hid hs
  have h1p : Hid (LB (x ^ 0) = true) := by rw [Int.pow_zero]; exact LB_of dg_one (by omega)
  obtain ⟨R, hR⟩ : ∃ R, lT (x ^ n) = R := ⟨_, rfl⟩
  obtain ⟨cc, hcc⟩ : ∃ R, lC (x ^ n) = R := ⟨_, rfl⟩
  rw [hR, hcc]
  have HRY : Hid (LB (x ^ n) = true → R = rep (x ^ n) ∧ cc = 0) := fun h => ⟨by rw [← hR, lT_ok h], by rw [← hcc, lC_ok h]⟩
  have HRN : Hid (LB (x ^ n) = false → R = ⟨#[]⟩ ∧ cc = 14) := fun h => ⟨by rw [← hR]; unfold lT; rw [if_neg (by rw [h]; decide)], by rw [← hcc, lC_no h]⟩
  clear hx hs hR hcc
  go_enter Tryz.func66, Tryz.ntmps66
  go_wp2
  go_loopw [6, 7] (fun a i wl => ∃ k : Nat, k ≤ n ∧ i = .int .i64 k ∧ a = .string (rep (x ^ k)) ∧ Hid (LB (x ^ k) = true) ∧ Below w.heap.size w wl) (fun _ i _ => n - (intOf i).toNat)
  case atStart => exact ⟨0, Nat.zero_le _, rfl, by rw [Int.pow_zero, rep_one'], h1p, Below.refl _ _⟩
  case round =>
    obtain ⟨k, hk, rfl, rfl, hl, hbel⟩ := hrel
    by_cases hlt : k < n
    · have JM := Lib.hid (HM.out k hl.out)
      cases h1 : LB (x ^ (k + 1))
      · have e0 := LB_mono (show k + 1 ≤ n by omega) HX.out h1
        obtain ⟨q1, q2⟩ := HRN.out e0
        subst q1; subst q2
        rw [lC_no h1] at JM
        generalize lT (x ^ (k + 1)) = y at JM
        generalize rep (x ^ k) = z at *
        clear e0 h1
        go_wp2_with (go_at_call 57; refine (JM.out _).mono ?_; rintro e w2 ⟨rfl, b⟩; have B2 := Lib.hid (bt hbel b); clear b)
        go_ret2
        exact ⟨rfl, B2.out⟩
      · rw [lC_ok h1, lT_ok h1] at JM
        have H1 := Lib.hid h1
        clear h1
        obtain ⟨y, hy⟩ : ∃ y, rep (x ^ (k + 1)) = y := ⟨_, rfl⟩
        rw [hy] at JM
        generalize rep (x ^ k) = z at *
        go_wp2_with (go_at_call 57; refine (JM.out _).mono ?_; rintro e w2 ⟨rfl, b⟩; have B2 := Lib.hid (bt hbel b); clear b)
        go_roundw
        case rel => exact ⟨k + 1, by omega, by go_num, by rw [hy], H1, B2.out⟩
        case measure => simp [intOf]; omega
    · have hke : k = n := by omega
      rw [hke] at hl
      obtain ⟨q1, q2⟩ := HRY.out hl.out
      subst q1; subst q2
      subst hke
      clear HRY HRN HM h1p hlt hk
      go_wp2
      go_ret2
      exact ⟨rfl, hbel⟩
theorem rep_is_one (y : Int) : ((rep y).toList == [49]) = decide (y = 1) := by
  have h := rep_one'
  by_cases hy : y = 1
  · subst hy
    rw [h, Lib.toList_data]; rfl
  · rw [decide_eq_false hy, beq_eq_false_iff_ne]
    intro e
    rw [Lib.toList_data, rep_data] at e
    have e2 := congrArg num e
    rw [num_itoa] at e2
    exact hy (e2.trans num_one)
theorem refraised_any (x : Int) (hx : x.natAbs < lim) (n : Nat) (hn : n ≤ 1000) (w : World) :
    Calls Tryz.prog 66 #[.string (rep x), .int .i64 n] w (StE (lT (x ^ n)) (lC (x ^ n)) w) := by
  by_cases h1 : 1 < n
  · by_cases h0 : x = 0
    · have h := raised_0 x hx _ rfl n hn h1 (by rw [rep_is_zero]; exact decide_eq_true h0) w
      rw [show x ^ 1 = x ^ n by rw [h0, Int.pow_one, Int.zero_pow (by omega)]] at h
      exact h
    · by_cases h2 : x = 1
      · have h := raised_1 x hx _ rfl n hn h1 (by rw [rep_is_zero]; exact decide_eq_false h0) (by rw [rep_is_one]; exact decide_eq_true h2) w
        rw [show x ^ 1 = x ^ n by rw [h2, Int.one_pow, Int.one_pow]] at h
        exact h
      · exact raised_n x hx _ rfl n hn h1 (by rw [rep_is_zero]; exact decide_eq_false h0) (by rw [rep_is_one]; exact decide_eq_false h2) w
  · exact raised_s x hx _ rfl n hn (by omega) w

set_option maxRecDepth 100000 in
set_option maxHeartbeats 1600000 in
theorem rpow_arg1 (s : ByteArray) (n : Int) (h : n < -1000) (w : World) :
    Calls Tryz.prog 32 #[.string s, .int .i64 n] w (StE ⟨#[]⟩ 2 w) := by
  go_enter Tryz.func32, Tryz.ntmps32
  go_wp2
  go_ret2
  exact ⟨rfl, Below.refl _ _⟩
set_option maxRecDepth 100000 in
set_option maxHeartbeats 1600000 in
theorem rpow_arg2 (s : ByteArray) (n : Int) (h : 1000 < n) (w : World) :
    Calls Tryz.prog 32 #[.string s, .int .i64 n] w (StE ⟨#[]⟩ 2 w) := by
  have h1 : decide (n < -1000) = false := decide_eq_false (by omega)
  go_enter Tryz.func32, Tryz.ntmps32
  go_wp2
  go_ret2
  exact ⟨rfl, Below.refl _ _⟩
set_option maxRecDepth 100000 in
set_option maxHeartbeats 1600000 in
theorem rpow_check (s : ByteArray) (n : Int) (c : Int) (hc : ¬ c = 0) (h1 : -1000 ≤ n) (h2 : n ≤ 1000) (w : World)
    (H1 : ∀ W, Calls Tryz.prog 27 #[.string s] W (IntB c W)) :
    Calls Tryz.prog 32 #[.string s, .int .i64 n] w (StE ⟨#[]⟩ c w) := by
  have h3 : decide (n < -1000) = false := decide_eq_false (by omega)
  have h4 : decide (1000 < n) = false := decide_eq_false (by omega)
  have zc : (c == 0) = false := by rw [beq_eq_false_iff_ne]; exact hc
  have J1 := Lib.hid H1
  clear H1 hc
  go_enter Tryz.func32, Tryz.ntmps32
  go_wp2_with fail
  refine (J1.out _).mono ?_
  rintro e u1 ⟨rfl, b⟩
  have D1 := Lib.hid b
  clear b
  go_wp2_with fail
  refine (J1.out _).mono ?_
  rintro e u2 ⟨rfl, b⟩
  have D2 := Lib.hid (bt D1.out b)
  clear b
  go_wp2
  go_ret2
  exact ⟨rfl, D2.out⟩
set_option maxRecDepth 100000 in
set_option maxHeartbeats 1600000 in
theorem rpow_zero (s : ByteArray) (n : Int) (a b : ByteArray) (h1 : -1000 ≤ n) (h2 : n < 0) (hz : (a.toList == [48]) = true) (w : World)
    (H1 : ∀ W, Calls Tryz.prog 27 #[.string s] W (IntB 0 W))
    (H2 : ∀ W, Calls Tryz.prog 61 #[.string s] W (TwoW a b W)) :
    Calls Tryz.prog 32 #[.string s, .int .i64 n] w (StE ⟨#[]⟩ 16 w) := by
  have h3 : decide (n < -1000) = false := decide_eq_false (by omega)
  have h4 : decide (1000 < n) = false := decide_eq_false (by omega)
  have J1 := Lib.hid H1
  have J2 := Lib.hid H2
  clear H1 H2
  go_enter Tryz.func32, Tryz.ntmps32
  go_wp2_with (first
    | (go_at_call 27; (with_reducible refine (J1.out _).mono ?_); rintro e u1 ⟨rfl, b⟩; have D1 := Lib.hid b; clear b)
    | (go_at_call 61; (with_reducible refine (J2.out _).mono ?_); rintro e u2 ⟨rfl, b⟩; have D2 := Lib.hid (bt D1.out b); clear b))
  go_ret2
  exact ⟨rfl, D2.out⟩
set_option maxRecDepth 100000 in
set_option maxHeartbeats 1600000 in
theorem rpow_pos (s : ByteArray) (n : Int) (a b p q R : ByteArray) (f g c : Int) (h1 : 0 ≤ n) (h2 : n ≤ 1000) (w : World)
    (H1 : ∀ W, Calls Tryz.prog 27 #[.string s] W (IntB 0 W))
    (H2 : ∀ W, Calls Tryz.prog 61 #[.string s] W (TwoW a b W))
    (H3 : ∀ W, Calls Tryz.prog 66 #[.string a, .int .i64 n] W (StE p f W))
    (H4 : ∀ W, Calls Tryz.prog 66 #[.string b, .int .i64 n] W (StE q g W))
    (H5 : ∀ W, Calls Tryz.prog 58 #[.string p, .string q, .int .i64 f, .int .i64 g] W (StE R c W)) :
    Calls Tryz.prog 32 #[.string s, .int .i64 n] w (StE R c w) := by
  have h3 : decide (n < -1000) = false := decide_eq_false (by omega)
  have h4 : decide (1000 < n) = false := decide_eq_false (by omega)
  have h5 : decide (n < 0) = false := decide_eq_false (by omega)
  have J1 := Lib.hid H1
  have J2 := Lib.hid H2
  have J3 := Lib.hid H3
  have J4 := Lib.hid H4
  have J5 := Lib.hid H5
  clear H1 H2 H3 H4 H5
  go_enter Tryz.func32, Tryz.ntmps32
  go_wp2_with (first
    | (go_at_call 27; (with_reducible refine (J1.out _).mono ?_); rintro e u1 ⟨rfl, b⟩; have D1 := Lib.hid b; clear b)
    | (go_at_call 61; (with_reducible refine (J2.out _).mono ?_); rintro e u2 ⟨rfl, b⟩; have D2 := Lib.hid (bt D1.out b); clear b)
    | (go_at_call 66; (have _t := D3; (with_reducible refine (J4.out _).mono ?_)); rintro e u4 ⟨rfl, b⟩; have D4 := Lib.hid (bt D3.out b); clear b)
    | (go_at_call 66; (with_reducible refine (J3.out _).mono ?_); rintro e u3 ⟨rfl, b⟩; have D3 := Lib.hid (bt D2.out b); clear b)
    | (go_at_call 58; (with_reducible refine (J5.out _).mono ?_); rintro e u5 ⟨rfl, b⟩; have D5 := Lib.hid (bt D4.out b); clear b))
  go_ret2
  exact ⟨rfl, D5.out⟩
set_option maxRecDepth 100000 in
set_option maxHeartbeats 1600000 in
theorem rpow_neg (s : ByteArray) (n : Int) (a b p q R : ByteArray) (f g c : Int) (h1 : -1000 ≤ n) (h2 : n < 0) (hz : (a.toList == [48]) = false) (w : World)
    (H1 : ∀ W, Calls Tryz.prog 27 #[.string s] W (IntB 0 W))
    (H2 : ∀ W, Calls Tryz.prog 61 #[.string s] W (TwoW a b W))
    (H3 : ∀ W, Calls Tryz.prog 66 #[.string b, .int .i64 (-n)] W (StE p f W))
    (H4 : ∀ W, Calls Tryz.prog 66 #[.string a, .int .i64 (-n)] W (StE q g W))
    (H5 : ∀ W, Calls Tryz.prog 58 #[.string p, .string q, .int .i64 f, .int .i64 g] W (StE R c W)) :
    Calls Tryz.prog 32 #[.string s, .int .i64 n] w (StE R c w) := by
  have h3 : decide (n < -1000) = false := decide_eq_false (by omega)
  have h4 : decide (1000 < n) = false := decide_eq_false (by omega)
  have J1 := Lib.hid H1
  have J2 := Lib.hid H2
  have J3 := Lib.hid H3
  have J4 := Lib.hid H4
  have J5 := Lib.hid H5
  clear H1 H2 H3 H4 H5
  go_enter Tryz.func32, Tryz.ntmps32
  go_wp2_with (first
    | (go_at_call 27; (with_reducible refine (J1.out _).mono ?_); rintro e u1 ⟨rfl, b⟩; have D1 := Lib.hid b; clear b)
    | (go_at_call 61; (with_reducible refine (J2.out _).mono ?_); rintro e u2 ⟨rfl, b⟩; have D2 := Lib.hid (bt D1.out b); clear b)
    | (go_at_call 66; (have _t := D3; (with_reducible refine (J4.out _).mono ?_)); rintro e u4 ⟨rfl, b⟩; have D4 := Lib.hid (bt D3.out b); clear b)
    | (go_at_call 66; (with_reducible refine (J3.out _).mono ?_); rintro e u3 ⟨rfl, b⟩; have D3 := Lib.hid (bt D2.out b); clear b)
    | (go_at_call 58; (with_reducible refine (J5.out _).mono ?_); rintro e u5 ⟨rfl, b⟩; have D5 := Lib.hid (bt D4.out b); clear b))
  go_ret2
  exact ⟨rfl, D5.out⟩
theorem pow_divInt (q : Rat) (n : Nat) : Rat.divInt (q.num ^ n) ((q.den : Int) ^ n) = q ^ n := by
  have h := Rat.num_divInt_den (q ^ n)
  rw [Rat.num_pow, Rat.den_pow, Int.natCast_pow] at h
  exact h
theorem inv_divInt (q : Rat) (n : Nat) : Rat.divInt ((q.den : Int) ^ n) (q.num ^ n) = q⁻¹ ^ n := by
  rw [inv_pow, Rat.inv_def, Rat.num_pow, Rat.den_pow, Int.natCast_pow]
theorem LB_abs {x y : Int} (h : x.natAbs = y.natAbs) : LB x = LB y := by unfold LB; rw [h]
theorem powC_inv (q : Rat) (h0 : q.num ≠ 0) (n : Nat) : (if LB ((q.den : Int) ^ n) && LB (q.num ^ n) then 0 else 14) = powC q⁻¹ n := by
  obtain ⟨e1, e2⟩ := rat_inv q (num_ne h0)
  unfold powC
  have a1 : LB ((q.den : Int) ^ n) = LB (q⁻¹.num ^ n) := LB_abs (by
    rw [Int.natAbs_pow, Int.natAbs_pow, e1, Int.natAbs_mul, Int.natAbs_sign_of_ne_zero h0, Nat.one_mul])
  have a2 : LB (q.num ^ n) = LB ((q⁻¹.den : Int) ^ n) := LB_abs (by
    rw [Int.natAbs_pow, Int.natAbs_pow, e2, Int.natAbs_natCast])
  rw [a1, a2]
theorem refpower_q (q : Rat) (hq : Sml q) (n : Int) (h1 : -1000 ≤ n) (h2 : n ≤ 1000) (w : World) :
    Calls Tryz.prog 32 #[.string (rq q), .int .i64 n] w (StE (qT (pwC q n) (pwV q n)) (pwC q n) w) := by
  unfold pwC pwV
  by_cases hn : n < 0
  · rw [if_pos hn, if_pos hn]
    by_cases h0 : q.num = 0
    · rw [if_pos h0, qT_err (by decide)]
      exact rpow_zero _ n _ _ h1 hn (by rw [rep_is_zero]; exact decide_eq_true h0) w (rcheck_q hq) (rwritten_q hq)
    · rw [if_neg h0]
      obtain ⟨m, hm⟩ := Int.eq_ofNat_of_zero_le (show 0 ≤ -n by omega)
      rw [hm, Int.toNat_natCast]
      have R1 := fun W => refraised_any (q.den : Int) hq.2 m (by omega) W
      have R2 := fun W => refraised_any q.num hq.1 m (by omega) W
      rw [← hm] at R1 R2
      exact rpow_neg _ n _ _ _ _ _ _ _ _ h1 hn (by rw [rep_is_zero]; exact decide_eq_false h0) w (rcheck_q hq) (rwritten_q hq) R1 R2 (fun W => frac_l (Int.pow_ne_zero h0) (inv_divInt q m) _ (powC_inv q h0 m) W)
  · rw [if_neg hn, if_neg hn]
    obtain ⟨k, rfl⟩ := Int.eq_ofNat_of_zero_le (show 0 ≤ n by omega)
    rw [Int.toNat_natCast]
    exact rpow_pos _ k _ _ _ _ _ _ _ _ (by omega) h2 w (rcheck_q hq) (rwritten_q hq) (fun W => refraised_any q.num hq.1 k (by omega) W) (fun W => refraised_any (q.den : Int) hq.2 k (by omega) W) (fun W => frac_l (Int.pow_ne_zero (den_ne q)) (pow_divInt q k) _ rfl W)
theorem refpower_any (s : ByteArray) (hs : s.size ≤ 1048576) (n : Int) (w : World) :
    Calls Tryz.prog 32 #[.string s, .int .i64 n] w (StE (poT n s.data.toList) (poC n s.data.toList) w) := by
  unfold poT poC
  by_cases hn : n < -1000 ∨ 1000 < n
  · rw [if_pos hn, qT_err (by decide)]
    rcases hn with hn | hn
    · exact rpow_arg1 s n hn w
    · exact rpow_arg2 s n hn w
  rw [if_neg hn]
  rcases text_cases s with h1 | ⟨q, rfl, hq⟩
  · rw [if_pos h1, qT_err h1]
    exact rpow_check s n _ h1 (by omega) (by omega) w (refRCheck_any s hs)
  rw [if_neg (fun h => h (rq_chk hq)), qv_rq]
  exact refpower_q q hq n (by omega) (by omega) w
end Go.Proofs.YtgjhgkglfflmjaaGreatDoor

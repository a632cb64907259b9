/- Layer 4: the reference's walks: Count, Business, and comparisons of calendars. -/
import Derived.Test.YtgnmcjfocnnffaaCalJ
namespace Go.Proofs.Ytgnmcjfocnnffaa
open Go Go.RowKit

def grtB (hs : List Int) : Bool := decide (1100 < hs.length) || (decide (100 < hs.length) && decide (hs.length ≤ 1000))
set_option maxRecDepth 100000 in
set_option maxHeartbeats 1600000 in
theorem great_any (we : Int) (A : Option Addr) (c : Nat) (hs : List Int) (b : Bool) (w : World) (h : CalIn w we A c hs) (hb : grtB hs = b) :
    Calls Try.prog 4 #[.agg #[.int .u8 we, .slice A hs.length c]] w fun x w' => x = .returned (.bool b) ∧ Below w.heap.size w w' := by
  have C1 := Lib.hid (CalAt.new (we := we) (c := c) h.rd)
  have B1 := Lib.hid (bel1 w (.cells #[.int .u8 we, .slice A hs.length c] 24))
  have c0 := C1.out.c0
  have c1 := C1.out.c1
  have hl := h.len
  unfold grtB at hb
  obtain ⟨n, hn⟩ : ∃ n, hs.length = n := ⟨_, rfl⟩
  rw [hn] at hb hl c1 C1 B1 ⊢
  rw [hn] at c0
  clear h hn
  have h3 : n ≤ 100 ∨ (100 < n ∧ n ≤ 1000) ∨ (1000 < n ∧ n ≤ 1100) ∨ 1100 < n := by omega
  rcases h3 with h3 | ⟨h3, h4⟩ | ⟨h3, h4⟩ | h3
  · have hb' : Hid (false = b) := by show _ = _; rw [← hb, decide_eq_false (by omega), decide_eq_false (by omega)]; rfl
    have h5 : (n : Int) ≤ 100 := by omega
    clear hb h3 hl
    go_enter Try.func4, Try.ntmps4
    go_wp2
    all_goals
      go_ret
      refine ⟨ret_bool ?_, B1.out⟩
      first | exact hb'.out | (rw [← hb'.out]; simp; omega)
  · have hb' : Hid (true = b) := by show _ = _; rw [← hb, decide_eq_false (by omega), decide_eq_true (by omega), decide_eq_true (by omega)]; rfl
    have h5 : (100 : Int) < n := by omega
    have h6 : (n : Int) ≤ 1000 := by omega
    clear hb h3 h4 hl
    go_enter Try.func4, Try.ntmps4
    go_wp2
    all_goals
      go_ret
      refine ⟨ret_bool ?_, B1.out⟩
      first | exact hb'.out | (rw [← hb'.out]; simp; omega)
  · have hb' : Hid (false = b) := by show _ = _; rw [← hb, decide_eq_false (by omega), decide_eq_true (by omega), decide_eq_false (by omega)]; rfl
    have h5 : (1000 : Int) < n := by omega
    have h6 : (n : Int) ≤ 1100 := by omega
    have h7 : (100 : Int) < n := by omega
    clear hb h3 h4 hl
    go_enter Try.func4, Try.ntmps4
    go_wp2
    all_goals
      go_ret
      refine ⟨ret_bool ?_, B1.out⟩
      first | exact hb'.out | (rw [← hb'.out]; simp; omega)
  · have hb' : Hid (true = b) := by show _ = _; rw [← hb, decide_eq_true (by omega)]; rfl
    have h5 : (1100 : Int) < n := by omega
    clear hb h3 hl
    go_enter Try.func4, Try.ntmps4
    go_wp2
    all_goals
      go_ret
      refine ⟨ret_bool ?_, B1.out⟩
      first | exact hb'.out | (rw [← hb'.out]; simp; omega)

def samB (we1 we2 : Int) (hs1 hs2 : List Int) : Bool := decide (we1 = we2) && decide (hs1 = hs2)
theorem samB_len {we1 we2 : Int} {hs1 hs2 : List Int} (h : samB we1 we2 hs1 hs2 = true) : we1 = we2 ∧ hs1 = hs2 := by simpa [samB] using h
/-- Two lists of one length, up to a place. -/
theorem ext_to {xs ys : List Int} (hl : xs.length = ys.length) (h : ∀ j, j < xs.length → xs.getD j 0 = ys.getD j 0) : xs = ys := by
  refine List.ext_getElem hl (fun j h1 h2 => ?_)
  have := h j h1
  rw [List.getD_eq_getElem?_getD, List.getD_eq_getElem?_getD, List.getElem?_eq_getElem h1, List.getElem?_eq_getElem h2] at this
  exact this
set_option maxRecDepth 100000 in
set_option maxHeartbeats 1600000 in
theorem same_any (we1 : Int) (A1 : Option Addr) (c1 : Nat) (hs1 : List Int) (we2 : Int) (A2 : Option Addr) (c2 : Nat) (hs2 : List Int) (b : Bool) (w : World) (h1 : CalIn w we1 A1 c1 hs1) (h2 : CalIn w we2 A2 c2 hs2) (hb : samB we1 we2 hs1 hs2 = b) :
    Calls Try.prog 9 #[.agg #[.int .u8 we1, .slice A1 hs1.length c1], .agg #[.int .u8 we2, .slice A2 hs2.length c2]] w fun x w' => x = .returned (.bool b) ∧ Below w.heap.size w w' := by
  obtain ⟨W2, hW2⟩ : ∃ W2, (w.alloc (.cells #[.int .u8 we1, .slice A1 hs1.length c1] 24)).alloc (.cells #[.int .u8 we2, .slice A2 hs2.length c2] 24) = W2 := ⟨_, rfl⟩
  have hb2 : Below w.heap.size w W2 := by rw [← hW2]; exact bel2 _ _ _
  have hC1 : CalAt W2 w.heap.size we1 A1 c1 hs1 := by rw [← hW2]; exact (CalAt.new h1.rd).below (bel1 _ _)
  have hC2 : CalAt W2 (w.heap.size + 1) we2 A2 c2 hs2 := by
    have := CalAt.new (we := we2) (c := c2) (h2.rd.below (bel1 w (.cells #[.int .u8 we1, .slice A1 hs1.length c1] 24)))
    rw [World.size_alloc] at this
    rw [← hW2]; exact this
  have HB2 := Lib.hid hb2
  have HC1 := Lib.hid hC1
  have HC2 := Lib.hid hC2
  have hl1 := h1.len
  have hl2 := h2.len
  have k0 := hC1.c0
  have k1 := hC1.c1
  have k2 := hC2.c0
  have k3 := hC2.c1
  clear hC1 hC2 hb2 h1 h2
  by_cases hw : we1 = we2
  · subst hw
    by_cases hl : hs1.length = hs2.length
    · have HS : Hid (decide (hs1 = hs2) = b) := by show _ = _; rw [← hb]; unfold samB; simp
      have HL := Lib.hid hl
      clear hb
      rw [← hl] at k3 hW2 ⊢
      clear hl hl2
      go_enter Try.func9, Try.ntmps9
      go_wp2
      go_loopw [5] (fun i wr => ∃ k : Nat, k ≤ hs1.length ∧ i = .int .i64 k ∧ Hid (∀ j, j < k → hs1.getD j 0 = hs2.getD j 0) ∧ Hid (Below w.heap.size w wr) ∧ Hid (CalAt wr w.heap.size we1 A1 c1 hs1) ∧ Hid (CalAt wr (w.heap.size + 1) we1 A2 c2 hs2)) (fun i _ => hs1.length - (intOf i).toNat)
      case atStart => exact ⟨0, by omega, rfl, fun j hj => absurd hj (by omega), HB2, HC1, HC2⟩
      case round =>
        clear k0 k1 k2 k3 hW2
        obtain ⟨k, hk, rfl, heq, HBr, HCr1, HCr2⟩ := hrel
        have k0 := HCr1.out.c0
        have k1 := HCr1.out.c1
        have k2 := HCr2.out.c0
        have k3 := HCr2.out.c1
        have HL' := HL.out
        rw [← HL'] at k3
        by_cases hlt : k < hs1.length
        · obtain ⟨b1, o1, rfl, hz1, hcell1⟩ := HCr1.out.hs.get hlt
          obtain ⟨b2, o2, rfl, hz2, hcell2⟩ := HCr2.out.hs.get (j := k) (by omega)
          have q1 := hcell1 k hlt
          have q2 := hcell2 k (by omega)
          have HN : Hid (hs1.getD k 0 = hs2.getD k 0 → ∀ j, j < k + 1 → hs1.getD j 0 = hs2.getD j 0) := fun he j hj => by
            by_cases e : j = k
            · subst e; exact he
            · exact heq.out j (by omega)
          have HF : Hid (hs1.getD k 0 ≠ hs2.getD k 0 → false = b) := fun hne => by
            rw [← HS.out, decide_eq_false (fun e => hne (by rw [e]))]
          have i1 : (k : Int) < (hs1.length : Int) := by omega
          clear hcell1 hcell2 HL'
          generalize hs1.getD k 0 = x at *
          generalize hs2.getD k 0 = y at *
          by_cases hxy : x = y
          · subst hxy
            have HN' := Lib.hid (HN.out rfl)
            go_wp2
            go_quiet (fail)
            have HBN := Lib.hid (below_dn HBr.out nq)
            have HCN := Lib.hid (HCr1.out.dn nq)
            have HCM := Lib.hid (HCr2.out.dn nq)
            go_wp2
            go_roundw
            case rel => exact ⟨k + 1, by omega, by go_num, HN', HBN, HCN, HCM⟩
            case measure => simp [intOf]; omega
          · have HF' := Lib.hid (HF.out hxy)
            have hne : (x != y) = true := by rw [bne_iff_ne]; exact hxy
            have hne2 : (x == y) = false := by rw [beq_eq_false_iff_ne]; exact hxy
            go_wp2
            go_quiet (fail)
            go_wp2
            go_ret
            exact ⟨ret_bool HF'.out, below_dn HBr.out _⟩
        · obtain rfl : k = hs1.length := by omega
          have HF : Hid (true = b) := by show _ = _; rw [← HS.out, decide_eq_true (ext_to HL' heq.out)]
          go_wp2
          go_ret
          exact ⟨ret_bool HF.out, HBr.out⟩
    · have HS : Hid (false = b) := by show _ = _; rw [← hb]; unfold samB; rw [decide_eq_false (p := hs1 = hs2) (fun e => hl (by rw [e]))]; simp
      have hne : ((hs1.length : Int) != (hs2.length : Int)) = true := by rw [bne_iff_ne]; omega
      have hne2 : ((hs1.length : Int) == (hs2.length : Int)) = false := by rw [beq_eq_false_iff_ne]; omega
      clear hb hl
      go_enter Try.func9, Try.ntmps9
      go_wp2
      go_ret
      exact ⟨ret_bool HS.out, HB2.out⟩
  · have HS : Hid (false = b) := by show _ = _; rw [← hb]; unfold samB; rw [decide_eq_false hw]; rfl
    have hne : (we1 != we2) = true := by rw [bne_iff_ne]; exact hw
    have hne2 : (we1 == we2) = false := by rw [beq_eq_false_iff_ne]; exact hw
    clear hb
    go_enter Try.func9, Try.ntmps9
    go_wp2
    go_ret
    exact ⟨ret_bool HS.out, HB2.out⟩
end Go.Proofs.Ytgnmcjfocnnffaa

/- The walks of layer 1: Of and To. -/
import Derived.Test.YtlipjedofegciaaDoorIntA
import Derived.Test.YtlipjedofegciaaDoorIntNum
import Derived.WalkSmall
namespace Go.Proofs.YtlipjedofegciaaDoor
open Go Go.RowKit

theorem below_grow (w : World) (k : Nat) (os : Array Obj) : Below w.heap.size w («Sort».grow (w.drewN k) os) := by
  refine ⟨rfl, rfl, rfl, ?_, fun i hi => ?_⟩
  · show w.heap.size ≤ (w.heap ++ os).size
    simp
  · show (w.heap ++ os)[i]? = w.heap[i]?
    rw [Array.getElem?_append_left hi]

/-- What the program's text lays in the variables that layer 1 reaches. -/
structure Vars (w : World) : Prop where
  sz : 7 ≤ w.heap.size
  tab : Lib.TabIs Tryd.prog w "internal/strconv.uint64pow10" .u64 Lib.pow10Tab
  err : ∃ tp p, w.var? Tryd.prog "strconv.ErrRange" = some #[.iface tp p]
theorem gTab : Tryd.prog.globalNamed "internal/strconv.uint64pow10" = some 4 := by kernel_rfl
theorem gErr : Tryd.prog.globalNamed "strconv.ErrRange" = some 3 := by kernel_rfl
theorem Vars.below {w w' : World} (h : Vars w) (hb : Below w.heap.size w w') : Vars w' :=
  { sz := Nat.le_trans h.sz hb.size
    tab := var?_below hb gTab (by have := h.sz; omega) h.tab
    err := by
      obtain ⟨tp, p, he⟩ := h.err
      exact ⟨tp, p, var?_below hb gErr (by have := h.sz; omega) he⟩
  }

theorem of_any (n : Int) (h0 : -9223372036854775808 ≤ n) (h1 : n ≤ 9223372036854775807) (w : World) (hv : Vars w) :
    Calls Tryd.prog 22 #[.int .i64 n] w fun e w' => e = .returned (.string ⟨(Lib.itoa n).toArray⟩) ∧ Below w.heap.size w w' := by
  have HI := Lib.hid (Tryd.strconv_Itoa n h0 h1 w hv.tab)
  clear hv
  go_enter Tryd.func22, Tryd.ntmps22
  go_wp2_with (go_at_call 57; refine HI.out.mono ?_; rintro e w1 ⟨rfl, k, os, rfl⟩)
  go_ret
  exact ⟨rfl, below_grow _ _ _⟩

theorem parseM (M : Nat) (hM : M < 18446744073709551616) : ∀ (l : List UInt8) (acc : Nat), odB l = true → acc ≤ M → Lib.parseUintM M acc l = if acc * 10 ^ l.length + vl 10 (dgs l) ≤ M then .ok (acc * 10 ^ l.length + vl 10 (dgs l)) else .range := by
  intro l
  induction l with
  | nil => intro acc _ h; simp [Lib.parseUintM, dgs, vl, h]
  | cons c r ih =>
    intro acc ho hacc
    have hc : dgB c = true := by unfold odB at ho; rw [List.all_cons, Bool.and_eq_true] at ho; exact ho.1
    have hr : odB r = true := by unfold odB at *; rw [List.all_cons, Bool.and_eq_true] at ho; exact ho.2
    have hd := (dgB_iff c).1 hc
    have e : acc * 10 ^ (c :: r).length + vl 10 (dgs (c :: r)) = (acc * 10 + (c.toNat - 48)) * 10 ^ r.length + vl 10 (dgs r) := by
      have : dgs (c :: r) = dgs r ++ [dv c] := by simp [dgs]
      rw [this, vl_snoc, dgs_length, List.length_cons, Nat.pow_succ]
      unfold dv
      generalize 10 ^ r.length = T
      generalize c.toNat - 48 = d
      grind
    have hp : 1 ≤ 10 ^ r.length := Nat.pow_pos (by omega)
    have hge : ∀ a : Nat, a ≤ a * 10 ^ r.length := fun a => by have := Nat.mul_le_mul_left a hp; omega
    unfold Lib.parseUintM
    rw [if_pos ⟨by omega, by omega⟩, e]
    split
    · rw [if_neg]
      have := hge (acc * 10 + (c.toNat - 48))
      omega
    · split
      · rw [if_neg]
        have := hge (acc * 10 + (c.toNat - 48))
        omega
      · exact ih _ hr (by omega)

theorem parse64 (l : List UInt8) (h : chk l = 0) : Lib.parseIntB 64 l = if -9223372036854775808 ≤ num l ∧ num l ≤ 9223372036854775807 then .ok (num l) else .range := by
  obtain ⟨_, hdl⟩ := bod_len_of_chk h
  have ho : odB (bod l) = true ∧ bod l ≠ [] := by
    rcases can_cases l (by rw [h]; decide) with rfl | ⟨hs, ho⟩
    · decide
    · exact ⟨ho, fun e => by rw [e] at hs; simp [szB] at hs⟩
  obtain ⟨ho, hne⟩ := ho
  have hP := parseM 18446744073709551615 (by omega) (bod l) 0 ho (by omega)
  rw [Nat.zero_mul, Nat.zero_add] at hP
  have hB : Lib.parseUintB 64 (bod l) = Lib.parseUintM 18446744073709551615 0 (bod l) := by
    unfold Lib.parseUintB
    rw [if_neg hne]
  rw [hP] at hB
  cases hn : ngB l
  · have hnum : num l = (vl 10 (dgs (bod l)) : Int) := by rw [num_sgn, hn]; rfl
    have hbl := bod_pos l hn
    rw [hbl] at hB hnum hne ho
    match l, hne, hn, ho with
    | c :: r, _, hn, ho =>
      have hc : dgB c = true := by unfold odB at ho; rw [List.all_cons, Bool.and_eq_true] at ho; exact ho.1
      have hd := (dgB_iff c).1 hc
      unfold Lib.parseIntB
      simp only
      rw [if_neg (by omega), hB, hnum]
      generalize vl 10 (dgs (c :: r)) = v
      have hc45 : ¬ c.toNat = 45 := by omega
      by_cases h1 : v ≤ 18446744073709551615
      · rw [if_pos h1]
        simp only
        by_cases h2 : v ≤ 9223372036854775807
        · rw [if_neg (by omega), if_neg (by omega), if_neg hc45, if_pos (by omega)]
        · rw [if_pos (by omega), if_neg (by omega)]
      · rw [if_neg h1, if_neg (by omega)]
  · have hnum : num l = -(vl 10 (dgs (bod l)) : Int) := by rw [num_sgn, hn]; rfl
    have hl := neg_cons l hn
    obtain ⟨b, hb⟩ : ∃ b, bod l = b := ⟨_, rfl⟩
    rw [hb] at hB hnum hl
    rw [hnum, hl]
    unfold Lib.parseIntB
    simp only
    rw [if_pos (by decide), hB]
    generalize vl 10 (dgs b) = v
    have hc45 : (45 : UInt8).toNat = 45 := by decide
    by_cases h1 : v ≤ 18446744073709551615
    · rw [if_pos h1]
      simp only
      by_cases h2 : v ≤ 9223372036854775808
      · rw [if_neg (by omega), if_neg (by omega), if_pos hc45, if_pos (by omega)]
      · rw [if_neg (by omega), if_pos (by omega), if_neg (by omega)]
    · rw [if_neg h1, if_neg (by omega)]

set_option maxHeartbeats 800000 in
theorem to_any (s : ByteArray) (hs : s.size ≤ 1099511627776) (w : World) (hv : Vars w) :
    Calls Tryd.prog 19 #[.string s] w fun e w' => e = .returned (.tuple #[.int .i64 (toS s.data.toList).1, .int .i64 (toS s.data.toList).2]) ∧ Below w.heap.size w w' := by
  have HC := Lib.hid (check_any s w (by unfold maxLen; omega))
  unfold toS
  by_cases h : chk s.data.toList = 0
  · rw [if_pos h]
    rw [h] at HC
    have hp := parse64 _ h
    clear h
    by_cases hz : -9223372036854775808 ≤ num s.data.toList ∧ num s.data.toList ≤ 9223372036854775807
    · rw [if_pos hz] at hp ⊢
      have HP := Lib.hid (Tryd.strconv_ParseInt_10_at64_ok s (by omega) _ hp w)
      clear hz hp hv
      generalize num s.data.toList = z at HP ⊢
      go_enter Tryd.func19, Tryd.ntmps19
      go_wp2_with (first | (go_at_call 12; refine HC.out.mono ?_; rintro e w1 ⟨rfl, rfl⟩) | (go_at_call 55; refine HP.out.mono ?_; rintro e w2 ⟨rfl, hb2⟩; have HB2 : Below w.heap.size w w2 := (by rcases hb2 with rfl | ⟨t, rfl⟩; exact Below.refl _ _; exact Lib.bytesWorld_below _ _ _); clear hb2))
      go_ret2
      exact ⟨rfl, HB2⟩
    · rw [if_neg hz] at hp ⊢
      obtain ⟨tp, p, he⟩ := hv.err
      have HP := Lib.hid (Tryd.strconv_ParseInt_10_at64_range_var s (by omega) hp tp p w he)
      clear hz hp hv he
      generalize Lib.intSat 64 s.data.toList = z at HP
      go_enter Tryd.func19, Tryd.ntmps19
      go_wp2_with (first | (go_at_call 12; refine HC.out.mono ?_; rintro e w1 ⟨rfl, rfl⟩) | (go_at_call 55; refine HP.out.mono ?_; rintro e w2 ⟨N, rfl, hN, hh, hb2⟩; clear hh))
      go_ret2
      exact ⟨rfl, hb2⟩
  · rw [if_neg h]
    obtain ⟨x, hx⟩ : ∃ x, chk s.data.toList = x := ⟨_, rfl⟩
    rw [hx] at HC h ⊢
    have h1 : (x == 0) = false := by rw [beq_eq_false_iff_ne]; exact h
    have h2 : (x != 0) = true := by rw [bne_iff_ne]; exact h
    clear h hx hv
    go_enter Tryd.func19, Tryd.ntmps19
    go_wp2_with (go_at_call 12; refine HC.out.mono ?_; rintro e w1 ⟨rfl, rfl⟩)
    go_ret2
    exact ⟨rfl, Below.refl _ _⟩
end Go.Proofs.YtlipjedofegciaaDoor

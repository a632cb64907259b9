/- The walks of layer 1: magnitudes: groups of nine digits. -/
import Derived.Test.YtlipjedofegciaaDoorIntA
import Derived.Test.YtlipjedofegciaaDoorIntNum
import Derived.Deep.QuietTactic
import Derived.BigQuiet
import Derived.BigRegion
import Derived.WalkSmall
namespace Go.Proofs.YtlipjedofegciaaDoor
open Go Go.RowKit

def encU (n : Nat) : Value := .int .u32 n
theorem Tryd.infoU : (Tryd.prog.info? 77).map (fun i => (i.zero, i.size, i.bytes)) = some (some (.int .u32 0), 1, 4) := by kernel_rfl

set_option maxHeartbeats 400000 in
theorem mat_any (A : Option Addr) (c : Nat) (ds : List Nat) (w : World) (hA : SlA encU w A ds) (i : Nat) :
    Calls Tryd.prog 85 #[.slice A ds.length c, .int .i64 i] w fun e w' => e = .returned (.int .u32 ((ds.getD i 0 : Nat) : Int)) ∧ w = w' := by
  by_cases hlt : i < ds.length
  · obtain ⟨b, o, rfl, hb, hc⟩ := hA.get hlt
    clear hA
    unfold encU at hc
    have H : Hid (ds.getD i 0 = ds[i]) := by show _ = _; simp [hlt]
    obtain ⟨x, hx⟩ : ∃ x, ds[i] = x := ⟨_, rfl⟩
    rw [hx] at hc H
    clear hx
    have h1 : (i : Int) < (ds.length : Int) := by omega
    go_enter Tryd.func85, Tryd.ntmps85
    go_wp2
    go_ret
    exact ⟨ret_int (by rw [H.out]), rfl⟩
  · have H : Hid (ds.getD i 0 = 0) := by show _ = _; simp [List.getD, List.getElem?_eq_none (Nat.le_of_not_lt hlt)]
    have h1 : (ds.length : Int) ≤ (i : Int) := by omega
    go_enter Tryd.func85, Tryd.ntmps85
    go_wp2
    go_ret
    exact ⟨ret_int (by rw [H.out]; rfl), rfl⟩
/-- Below 0 it is 0. -/
theorem mat_neg (A : Option Addr) (c n : Nat) (w : World) (i : Int) (hi : i < 0) :
    Calls Tryd.prog 85 #[.slice A n c, .int .i64 i] w fun e w' => e = .returned (.int .u32 0) ∧ w = w' := by
  go_enter Tryd.func85, Tryd.ntmps85
  go_wp2
  go_ret
  exact ⟨rfl, rfl⟩

def slLen : Value → Nat | .slice _ n _ => n | _ => 0
def trimI (xs : List Nat) (j : Nat) : Prop := vl 1000000000 xs = vl 1000000000 (xs.take j)
/-- What trim leaves. -/
def Trimmed (xs ys : List Nat) : Prop := ys = xs.take ys.length ∧ vl 1000000000 ys = vl 1000000000 xs ∧ (ys ≠ [] → ys.getD (ys.length - 1) 0 ≠ 0)

set_option maxRecDepth 100000 in
set_option maxHeartbeats 600000 in
theorem trim_any (A : Option Addr) (c : Nat) (xs : List Nat) (w : World) (hA : SlA encU w A xs) (hla : xs.length ≤ c) (hc : c ≤ maxLen) :
    Calls Tryd.prog 81 #[.slice A xs.length c] w fun e w' => ∃ ys, e = .returned (.slice A ys.length c) ∧ Trimmed xs ys ∧ w = w' := by
  unfold maxLen at hc
  go_enter Tryd.func81, Tryd.ntmps81
  go_wp2
  go_loop [0] (fun x => ∃ j : Nat, j ≤ xs.length ∧ x = .slice A j c ∧ Hid (trimI xs j)) (fun x => slLen x)
  case atStart => exact ⟨xs.length, Nat.le_refl _, rfl, by show _ = _; rw [List.take_of_length_le (Nat.le_refl _)]⟩
  case round =>
    obtain ⟨j, hj, rfl, hinv⟩ := hrel
    cases j with
    | zero =>
      go_wp2
      go_ret
      exact ⟨[], rfl, ⟨rfl, by rw [hinv.out]; rfl, fun h => absurd rfl h⟩, rfl⟩
    | succ j =>
      have hlt : j < xs.length := hj
      obtain ⟨b, o, rfl, hb, hc0⟩ := hA.get hlt
      obtain ⟨x, hx⟩ : ∃ x, xs[j] = x := ⟨_, rfl⟩
      rw [hx] at hc0
      unfold encU at hc0
      by_cases h0 : x = 0
      · subst h0
        have HI : Hid (trimI xs j) := by
          have := hinv.out
          show _ = _
          unfold trimI at this
          rw [take_snoc xs j hlt, vl_snoc, hx] at this
          rw [this]; simp
        clear hinv hx hA
        go_wp2
        go_round
        case rel => exact ⟨j, by omega, rfl, HI⟩
        case measure => simp [slLen]
      · have hx0 : ((x : Int) == 0) = false := by rw [beq_eq_false_iff_ne]; omega
        have HT : Hid (Trimmed xs (xs.take (j + 1))) := by
          have hl : (xs.take (j + 1)).length = j + 1 := by rw [List.length_take]; omega
          refine ⟨by rw [hl], hinv.out.symm, fun _ => ?_⟩
          rw [hl, Nat.add_sub_cancel, List.getD_eq_getElem?_getD, List.getElem?_take, if_pos (by omega), List.getElem?_eq_getElem hlt, hx]
          simpa using h0
        have hl : (xs.take (j + 1)).length = j + 1 := by rw [List.length_take]; omega
        have HL := Lib.hid hl
        clear hinv hx hA h0 hl
        go_wp2
        go_ret
        exact ⟨xs.take (j + 1), by rw [HL.out]; rfl, HT, rfl⟩

/-- The comparison of two lists without zeros at the top. -/
theorem cmp_len (xs ys : List Nat) (hx : ∀ d ∈ xs, d < 1000000000) (hy : ∀ d ∈ ys, d < 1000000000) (ty : ys ≠ [] → ys.getD (ys.length - 1) 0 ≠ 0) (h : xs.length < ys.length) : vl 1000000000 xs < vl 1000000000 ys := by
  have h1 := vl_lt 1000000000 xs hx
  have hne : ys ≠ [] := by rintro rfl; simp at h
  have hg := ty hne
  obtain ⟨n, hn⟩ : ∃ n, ys.length = n + 1 := ⟨ys.length - 1, by omega⟩
  have e := vl_take_succ 1000000000 ys n
  rw [← hn, List.take_of_length_le (Nat.le_refl _)] at e
  rw [hn, Nat.add_sub_cancel] at hg
  have h2 : 1000000000 ^ n * 1 ≤ 1000000000 ^ n * ys.getD n 0 := Nat.mul_le_mul_left _ (Nat.one_le_iff_ne_zero.2 hg)
  have h3 : 1000000000 ^ xs.length ≤ 1000000000 ^ n := Nat.pow_le_pow_right (by omega) (by omega)
  omega
def GcInv (xs ys : List Nat) (j : Nat) : Prop := ∃ T, vl 1000000000 xs = vl 1000000000 (xs.take j) + 1000000000 ^ j * T ∧ vl 1000000000 ys = vl 1000000000 (ys.take j) + 1000000000 ^ j * T
theorem GcInv.start {xs ys : List Nat} {j : Nat} (h1 : xs.length ≤ j) (h2 : ys.length ≤ j) : GcInv xs ys j :=
  ⟨0, by rw [vl_take_all _ xs _ h1]; simp, by rw [vl_take_all _ ys _ h2]; simp⟩
theorem GcInv.last {xs ys : List Nat} (h : GcInv xs ys 0) : cmpN (vl 1000000000 xs) (vl 1000000000 ys) = 0 := by
  obtain ⟨T, h1, h2⟩ := h
  have : vl 1000000000 xs = vl 1000000000 ys := by rw [h1, h2]; simp
  unfold cmpN; rw [if_neg (by omega), if_neg (by omega)]
theorem GcInv.step {xs ys : List Nat} {j : Nat} (h : GcInv xs ys (j + 1)) (hx : ∀ d ∈ xs, d < 1000000000) (hy : ∀ d ∈ ys, d < 1000000000) :
    (cmpN (xs.getD j 0) (ys.getD j 0) = 0 → GcInv xs ys j) ∧ (cmpN (xs.getD j 0) (ys.getD j 0) ≠ 0 → cmpN (vl 1000000000 xs) (vl 1000000000 ys) = cmpN (xs.getD j 0) (ys.getD j 0)) := by
  obtain ⟨T, h1, h2⟩ := h
  obtain ⟨c1, c2, c3⟩ := vl_cmp 1000000000 xs ys hx hy (by omega) j T h1 h2
  unfold cmpN
  refine ⟨fun e => ?_, fun e => ?_⟩
  · refine ⟨_, c3 ?_⟩
    split at e
    · cases e
    · split at e
      · cases e
      · omega
  · rcases Nat.lt_trichotomy (xs.getD j 0) (ys.getD j 0) with g | g | g
    · have := c1 g
      rw [if_neg (by omega), if_pos this, if_neg (by omega), if_pos g]
    · rw [if_neg (by omega), if_neg (by omega)] at e; exact absurd rfl e
    · have := c2 g
      rw [if_pos this, if_pos g]

theorem cmpU_any (x y : Nat) (w : World) :
    Calls Tryd.prog 99 #[.int .u32 x, .int .u32 y] w fun e w' => e = .returned (.int .i64 (cmpN x y)) ∧ w = w' := by
  unfold cmpN
  rcases Nat.lt_trichotomy x y with h | rfl | h
  · rw [if_neg (by omega), if_pos h]
    have h1 : (x : Int) < (y : Int) := by omega
    have hn : ∀ z : Int, ((z != z) = false) := fun z => by simp
    have hnx := hn x
    have hny := hn y
    clear h hn
    go_enter Tryd.func99, Tryd.ntmps99
    go_wp2
    go_ret
    exact ⟨rfl, rfl⟩
  · rw [if_neg (by omega), if_neg (by omega)]
    go_enter Tryd.func99, Tryd.ntmps99
    go_wp2
    go_ret
    exact ⟨rfl, rfl⟩
  · rw [if_pos h]
    have h1 : (y : Int) < (x : Int) := by omega
    have hn : ∀ z : Int, ((z != z) = false) := fun z => by simp
    have hnx := hn x
    have hny := hn y
    clear h hn
    go_enter Tryd.func99, Tryd.ntmps99
    go_wp2
    go_ret
    exact ⟨rfl, rfl⟩
theorem cmpI_any (x y : Nat) (w : World) :
    Calls Tryd.prog 98 #[.int .i64 x, .int .i64 y] w fun e w' => e = .returned (.int .i64 (cmpN x y)) ∧ w = w' := by
  refine (Tryd.cmp_Compare_int x y w).mono fun e w' h => ⟨?_, h.2.symm⟩
  rw [h.1]
  refine ret_int ?_
  unfold Lib.compareInt cmpN
  rcases Nat.lt_trichotomy x y with g | g | g
  · rw [if_pos (by omega), if_neg (by omega), if_pos g]
  · rw [if_neg (by omega), if_neg (by omega), if_neg (by omega), if_neg (by omega)]
  · rw [if_neg (by omega), if_pos (by omega), if_pos g]

set_option maxRecDepth 100000 in
set_option maxHeartbeats 800000 in
theorem mcompare_any (A B : Option Addr) (ca cb : Nat) (xs ys : List Nat) (w : World) (hA : SlA encU w A xs) (hB : SlA encU w B ys) (ha : ∀ d ∈ xs, d < 1000000000) (hb : ∀ d ∈ ys, d < 1000000000)
    (tx : xs ≠ [] → xs.getD (xs.length - 1) 0 ≠ 0) (ty : ys ≠ [] → ys.getD (ys.length - 1) 0 ≠ 0) (hla : xs.length ≤ 1099511627776) :
    Calls Tryd.prog 78 #[.slice A xs.length ca, .slice B ys.length cb] w fun e w' => e = .returned (.int .i64 (cmpN (vl 1000000000 xs) (vl 1000000000 ys))) ∧ ∃ n, w' = w.drewN n := by
  have HC := Lib.hid (cmpI_any xs.length ys.length)
  rcases Nat.lt_trichotomy xs.length ys.length with h | h | h
  · have hr := cmp_len xs ys ha hb ty h
    have e1 : cmpN (vl 1000000000 xs) (vl 1000000000 ys) = -1 := by unfold cmpN; rw [if_neg (by omega), if_pos hr]
    have e2 : cmpN xs.length ys.length = -1 := by unfold cmpN; rw [if_neg (by omega), if_pos h]
    rw [e1]
    rw [e2] at HC
    clear e1 e2 hr ha hb tx ty
    go_enter Tryd.func78, Tryd.ntmps78
    go_wp2_with (go_at_call 98; refine (HC.out _).mono ?_; rintro e w' ⟨rfl, rfl⟩)
    go_ret
    exact ⟨rfl, 0, rfl⟩
  · have e2 : cmpN xs.length ys.length = 0 := by unfold cmpN; rw [if_neg (by omega), if_neg (by omega)]
    rw [e2] at HC
    have HS := Lib.hid (GcInv.start (xs := xs) (ys := ys) (j := xs.length) (Nat.le_refl _) (Nat.le_of_eq h.symm))
    have HG := Lib.hid (fun (j : Nat) (hh : GcInv xs ys (j + 1)) => hh.step ha hb)
    have HL := Lib.hid (GcInv.last (xs := xs) (ys := ys))
    have hle : ys.length ≤ xs.length := by omega
    have hle2 : xs.length ≤ ys.length := by omega
    obtain ⟨R, hR⟩ : ∃ R, cmpN (vl 1000000000 xs) (vl 1000000000 ys) = R := ⟨_, rfl⟩
    rw [hR] at HL HG ⊢
    clear e2 ha hb tx ty h hR
    go_enter Tryd.func78, Tryd.ntmps78
    go_wp2_with (go_at_call 98; refine (HC.out _).mono ?_; rintro e w' ⟨rfl, rfl⟩)
    go_loopw [6] (fun i wr => ∃ j n : Nat, j ≤ xs.length ∧ i = .int .i64 ((j : Int) - 1) ∧ Hid (GcInv xs ys j) ∧ Hid (wr = w.drewN n)) (fun i _ => (intOf i + 1).toNat)
    case atStart => exact ⟨xs.length, 0, Nat.le_refl _, rfl, HS, by show w = _; rfl⟩
    case round =>
      obtain ⟨j, n, hj, rfl, hinv, hwr⟩ := hrel
      cases j with
      | zero =>
        have HX := Lib.hid (HL.out hinv.out)
        clear hinv HG HL HS
        go_wp2
        go_ret
        exact ⟨ret_int HX.out.symm, n, hwr.out⟩
      | succ j =>
        have ej : ((j + 1 : Nat) : Int) - 1 = (j : Int) := by omega
        rw [ej]
        clear ej
        have HI := Lib.hid (HG.out j hinv.out)
        clear hinv HG HL HS
        have h1 : j < xs.length := hj
        have h2 : j < ys.length := by omega
        obtain ⟨b1, o1, rfl, hb1, hc1⟩ := hA.get h1
        obtain ⟨b2, o2, rfl, hb2, hc2⟩ := hB.get h2
        have ex : xs[j] = xs.getD j 0 := by simp [List.getD_eq_getElem?_getD, h1]
        have ey : ys[j] = ys.getD j 0 := by simp [List.getD_eq_getElem?_getD, h2]
        rw [ex] at hc1
        rw [ey] at hc2
        clear ex ey
        generalize xs.getD j 0 = x at *
        generalize ys.getD j 0 = y at *
        have hc1' : wr.cell? ⟨b1, o1 + j, none⟩ = some (.int .u32 (x : Int)) := by rw [hwr.out]; exact hc1
        have hc2' : wr.cell? ⟨b2, o2 + j, none⟩ = some (.int .u32 (y : Int)) := by rw [hwr.out]; exact hc2
        have ek1 : (0 : Int) ≤ (j : Int) := by omega
        have ek2 : (j : Int) < (xs.length : Int) := by omega
        have ek4 : (j : Int) < (ys.length : Int) := by omega
        have ek3 : ((j : Int)).toNat = j := by omega
        clear hc1 hc2
        go_wp2
        go_quiet ((go_at_call 99; exact Calls.quiet_of_same ((cmpU_any _ _ _).mono fun _ _ h => ⟨h.1, h.2.symm⟩)))
        have hwr2 : Hid (wr.drewN nq = w.drewN (n + nq)) := by show _ = _; rw [hwr.out, World.drewN_drewN]
        clear hc1' hc2' hwr
        generalize wr.drewN nq = wq at *
        by_cases hz : cmpN x y = 0
        · have HX := Lib.hid (HI.out.1 hz)
          rw [hz]
          clear HI hz
          go_wp2
          go_roundw
          case rel => exact ⟨j, n + nq, by omega, rfl, HX, hwr2⟩
          case measure => simp [intOf]
        · have HX := Lib.hid (HI.out.2 hz)
          have hz1 : (cmpN x y == 0) = false := by rw [beq_eq_false_iff_ne]; exact hz
          have hz2 : (cmpN x y != 0) = true := by rw [bne_iff_ne]; exact hz
          clear HI hz
          generalize cmpN x y = r at *
          go_wp2
          go_ret
          exact ⟨ret_int HX.out.symm, n + nq, hwr2.out⟩
  · have hr := cmp_len ys xs hb ha tx h
    have e1 : cmpN (vl 1000000000 xs) (vl 1000000000 ys) = 1 := by unfold cmpN; rw [if_pos hr]
    have e2 : cmpN xs.length ys.length = 1 := by unfold cmpN; rw [if_pos h]
    rw [e1]
    rw [e2] at HC
    clear e1 e2 hr ha hb tx ty
    go_enter Tryd.func78, Tryd.ntmps78
    go_wp2_with (go_at_call 98; refine (HC.out _).mono ?_; rintro e w' ⟨rfl, rfl⟩)
    go_ret
    exact ⟨rfl, 0, rfl⟩
end Go.Proofs.YtlipjedofegciaaDoor

/- The walk of the law IntegerNames. -/
import Derived.Test.YtlipjedofegciaaDoorIntN
import Derived.Test.YtlipjedofegciaaDoorIntV
import Derived.Test.YtlipjedofegciaaDoorIntV2
namespace Go.Proofs.YtlipjedofegciaaDoor
open Go Go.RowKit

def badS : List ByteArray := [⟨#[]⟩, ⟨#[45]⟩, ⟨#[45, 48]⟩, ⟨#[48, 48]⟩, ⟨#[48, 49]⟩, ⟨#[45, 48, 49]⟩, ⟨#[43, 49]⟩, ⟨#[49, 32]⟩, ⟨#[32, 49]⟩, ⟨#[49, 46, 48]⟩, ⟨#[49, 101, 51]⟩, ⟨#[45, 45, 49]⟩, ⟨#[0]⟩]
theorem bad_chk : ∀ s ∈ badS, chk s.data.toList = 12 := by decide +kernel
theorem two_chk : chk [49] = 0 ∧ chk [50] = 0 ∧ chk [120] = 12 ∧ num [49] = 1 ∧ num [50] = 2 := by decide +kernel
theorem lim_big : 10 ≤ lim := by
  have := le_lim 1 (by omega)
  omega
theorem limS_no {z : Int} (h : lim ≤ z.natAbs) : limS z = ([], 14) := by unfold limS; rw [if_neg (by omega)]
theorem limS_ok {z : Int} (h : z.natAbs < lim) : limS z = (Lib.itoa z, 0) := by unfold limS; rw [if_pos h]
structure BigF (big : List UInt8) : Prop where
  add : opS (· + ·) big [49] = ([], 14)
  sub : ∃ l, opS (· - ·) big [49] = (l, 0) ∧ l ≠ big
  subm : opS (· - ·) (45 :: big) [49] = ([], 14)
  mul : opS (· * ·) big [50] = ([], 14)
  ck : chk big = 0
  ckm : chk (45 :: big) = 0
  len : big.length ≤ 1000
theorem big_f : BigF (nine thou) := by
  obtain ⟨big, e0, h1, h2, h3, h4, h5⟩ := big_facts
  rw [← e0]
  clear e0
  obtain ⟨c1, c2, c3, n1, n2⟩ := two_chk
  have hl := lim_big
  have b1 : ∀ l, chk l = 0 → ∀ m, chk m = 0 → bothE l m = 0 := fun l hl m hm => by unfold bothE; rw [if_pos hl]; exact hm
  refine ⟨?_, ⟨Lib.itoa ((lim : Int) - 1 - 1), ?_, ?_⟩, ?_, ?_, h1, h3, ?_⟩
  · rw [opS_ok (b1 _ h1 _ c1), h2, n1]; exact limS_no (by omega)
  · rw [opS_ok (b1 _ h1 _ c1), h2, n1]; exact limS_ok (by omega)
  · intro e
    have := num_itoa ((lim : Int) - 1 - 1)
    rw [e, h2] at this
    omega
  · rw [opS_ok (b1 _ h3 _ c1), h4, n1]; exact limS_no (by omega)
  · rw [opS_ok (b1 _ h1 _ c2), h2, n2]; exact limS_no (by omega)
  · rw [h5]; exact Nat.le_refl _
theorem big1_f : opS (· + ·) [120] (nine 1001) = ([], 12) ∧ opS (· + ·) (nine 1001) [120] = ([], 14) := by
  have h := big1_facts
  have c3 := two_chk.2.2.1
  constructor
  · rw [opS_err (by unfold bothE; rw [if_neg (by rw [c3]; decide), c3]; decide)]; unfold bothE; rw [if_neg (by rw [c3]; decide), c3]
  · rw [opS_err (by unfold bothE; rw [if_neg (by rw [h]; decide), h]; decide)]; unfold bothE; rw [if_neg (by rw [h]; decide), h]
theorem nr_dm1 : dmS [49] [48] = ([], [], 16) := by decide +kernel
theorem nc_dm1 (w : World) (hv : VarT w) : Calls Tryd.prog 17 #[.string ⟨#[49]⟩, .string ⟨#[48]⟩] w fun e w' => e = .returned (.tuple #[.string ⟨#[]⟩, .string ⟨#[]⟩, .int .i64 16]) ∧ Below w.heap.size w w' := by
  have h := divmod_any ⟨#[49]⟩ ⟨#[48]⟩ (by decide) (by decide) w hv
  rw [show dmS (⟨#[49]⟩ : ByteArray).data.toList (⟨#[48]⟩ : ByteArray).data.toList = ([], [], 16) from nr_dm1] at h
  exact h
theorem nr_dm2 : dmS [48] [48, 48] = ([], [], 12) := by decide +kernel
theorem nc_dm2 (w : World) (hv : VarT w) : Calls Tryd.prog 17 #[.string ⟨#[48]⟩, .string ⟨#[48, 48]⟩] w fun e w' => e = .returned (.tuple #[.string ⟨#[]⟩, .string ⟨#[]⟩, .int .i64 12]) ∧ Below w.heap.size w w' := by
  have h := divmod_any ⟨#[48]⟩ ⟨#[48, 48]⟩ (by decide) (by decide) w hv
  rw [show dmS (⟨#[48]⟩ : ByteArray).data.toList (⟨#[48, 48]⟩ : ByteArray).data.toList = ([], [], 12) from nr_dm2] at h
  exact h
theorem nr_gc : gcS [48] [48] = ([48], 0) := by decide +kernel
theorem nc_gc (w : World) (hv : VarT w) : Calls Tryd.prog 18 #[.string ⟨#[48]⟩, .string ⟨#[48]⟩] w fun e w' => e = .returned (.tuple #[.string ⟨#[48]⟩, .int .i64 0]) ∧ Below w.heap.size w w' := by
  have h := gcd_any ⟨#[48]⟩ ⟨#[48]⟩ (by decide) (by decide) w hv
  rw [show gcS (⟨#[48]⟩ : ByteArray).data.toList (⟨#[48]⟩ : ByteArray).data.toList = ([48], 0) from nr_gc] at h
  exact h
theorem nr_to1 : toS [57, 50, 50, 51, 51, 55, 50, 48, 51, 54, 56, 53, 52, 55, 55, 53, 56, 48, 55] = (9223372036854775807, 0) := by decide +kernel
theorem nc_to1 (w : World) (hv : Vars w) : Calls Tryd.prog 19 #[.string ⟨#[57, 50, 50, 51, 51, 55, 50, 48, 51, 54, 56, 53, 52, 55, 55, 53, 56, 48, 55]⟩] w fun e w' => e = .returned (.tuple #[.int .i64 9223372036854775807, .int .i64 0]) ∧ Below w.heap.size w w' := by
  have h := to_any ⟨#[57, 50, 50, 51, 51, 55, 50, 48, 51, 54, 56, 53, 52, 55, 55, 53, 56, 48, 55]⟩ (by decide) w hv
  rw [show toS (⟨#[57, 50, 50, 51, 51, 55, 50, 48, 51, 54, 56, 53, 52, 55, 55, 53, 56, 48, 55]⟩ : ByteArray).data.toList = (9223372036854775807, 0) from nr_to1] at h
  exact h
theorem nr_to2 : toS [45, 57, 50, 50, 51, 51, 55, 50, 48, 51, 54, 56, 53, 52, 55, 55, 53, 56, 48, 56] = (-9223372036854775808, 0) := by decide +kernel
theorem nc_to2 (w : World) (hv : Vars w) : Calls Tryd.prog 19 #[.string ⟨#[45, 57, 50, 50, 51, 51, 55, 50, 48, 51, 54, 56, 53, 52, 55, 55, 53, 56, 48, 56]⟩] w fun e w' => e = .returned (.tuple #[.int .i64 (-9223372036854775808), .int .i64 0]) ∧ Below w.heap.size w w' := by
  have h := to_any ⟨#[45, 57, 50, 50, 51, 51, 55, 50, 48, 51, 54, 56, 53, 52, 55, 55, 53, 56, 48, 56]⟩ (by decide) w hv
  rw [show toS (⟨#[45, 57, 50, 50, 51, 51, 55, 50, 48, 51, 54, 56, 53, 52, 55, 55, 53, 56, 48, 56]⟩ : ByteArray).data.toList = (-9223372036854775808, 0) from nr_to2] at h
  exact h
theorem nr_to3 : toS [57, 50, 50, 51, 51, 55, 50, 48, 51, 54, 56, 53, 52, 55, 55, 53, 56, 48, 56] = (0, 14) := by decide +kernel
theorem nc_to3 (w : World) (hv : Vars w) : Calls Tryd.prog 19 #[.string ⟨#[57, 50, 50, 51, 51, 55, 50, 48, 51, 54, 56, 53, 52, 55, 55, 53, 56, 48, 56]⟩] w fun e w' => e = .returned (.tuple #[.int .i64 0, .int .i64 14]) ∧ Below w.heap.size w w' := by
  have h := to_any ⟨#[57, 50, 50, 51, 51, 55, 50, 48, 51, 54, 56, 53, 52, 55, 55, 53, 56, 48, 56]⟩ (by decide) w hv
  rw [show toS (⟨#[57, 50, 50, 51, 51, 55, 50, 48, 51, 54, 56, 53, 52, 55, 55, 53, 56, 48, 56]⟩ : ByteArray).data.toList = (0, 14) from nr_to3] at h
  exact h
theorem nr_to4 : toS [45, 57, 50, 50, 51, 51, 55, 50, 48, 51, 54, 56, 53, 52, 55, 55, 53, 56, 48, 57] = (0, 14) := by decide +kernel
theorem nc_to4 (w : World) (hv : Vars w) : Calls Tryd.prog 19 #[.string ⟨#[45, 57, 50, 50, 51, 51, 55, 50, 48, 51, 54, 56, 53, 52, 55, 55, 53, 56, 48, 57]⟩] w fun e w' => e = .returned (.tuple #[.int .i64 0, .int .i64 14]) ∧ Below w.heap.size w w' := by
  have h := to_any ⟨#[45, 57, 50, 50, 51, 51, 55, 50, 48, 51, 54, 56, 53, 52, 55, 55, 53, 56, 48, 57]⟩ (by decide) w hv
  rw [show toS (⟨#[45, 57, 50, 50, 51, 51, 55, 50, 48, 51, 54, 56, 53, 52, 55, 55, 53, 56, 48, 57]⟩ : ByteArray).data.toList = (0, 14) from nr_to4] at h
  exact h
theorem nr_cm : cmpS [45, 50] [45, 49, 48] = (1, 0) := by decide +kernel
theorem nc_cm (w : World) (hv : VarT w) : Calls Tryd.prog 20 #[.string ⟨#[45, 50]⟩, .string ⟨#[45, 49, 48]⟩] w fun e w' => e = .returned (.tuple #[.int .i64 1, .int .i64 0]) ∧ Below w.heap.size w w' := by
  have h := compare_any ⟨#[45, 50]⟩ ⟨#[45, 49, 48]⟩ (by decide) (by decide) w hv
  rw [show cmpS (⟨#[45, 50]⟩ : ByteArray).data.toList (⟨#[45, 49, 48]⟩ : ByteArray).data.toList = (1, 0) from nr_cm] at h
  exact h
theorem nr_of1 : Lib.itoa (-9223372036854775808) = [45, 57, 50, 50, 51, 51, 55, 50, 48, 51, 54, 56, 53, 52, 55, 55, 53, 56, 48, 56] := by decide +kernel
theorem nc_of1 (w : World) (hv : Vars w) : Calls Tryd.prog 22 #[.int .i64 (-9223372036854775808)] w fun e w' => e = .returned (.string ⟨#[45, 57, 50, 50, 51, 51, 55, 50, 48, 51, 54, 56, 53, 52, 55, 55, 53, 56, 48, 56]⟩) ∧ Below w.heap.size w w' := by
  have h := of_any (-9223372036854775808) (by omega) (by omega) w hv
  rw [nr_of1] at h
  exact h
theorem nr_of2 : Lib.itoa (0) = [48] := by decide +kernel
theorem nc_of2 (w : World) (hv : Vars w) : Calls Tryd.prog 22 #[.int .i64 (0)] w fun e w' => e = .returned (.string ⟨#[48]⟩) ∧ Below w.heap.size w w' := by
  have h := of_any (0) (by omega) (by omega) w hv
  rw [nr_of2] at h
  exact h

theorem check_is (l : List UInt8) (s : ByteArray) (hs : s.data.toList = l) (hl : l.length ≤ 1100) (c : Int) (hc : chk l = c) (w : World) :
    Calls Tryd.prog 12 #[.string s] w fun e w' => e = .returned (.int .i64 c) ∧ w = w' := by
  subst hs; subst hc
  exact check_any s w (by rw [Lib.size_eq]; unfold maxLen; omega)
set_option maxRecDepth 100000 in
set_option maxHeartbeats 3200000 in
theorem names_law (w : World) (hv : Vars w) :
    Calls Tryd.prog 3 #[] w fun e w' => e = .returned (.bool true) ∧ Below w.heap.size w w' := by
  have HV := Lib.hid hv
  have hS : SlA Value.string (w.alloc (.cells #[.string ⟨#[]⟩, .string ⟨#[45]⟩, .string ⟨#[45, 48]⟩, .string ⟨#[48, 48]⟩, .string ⟨#[48, 49]⟩, .string ⟨#[45, 48, 49]⟩, .string ⟨#[43, 49]⟩, .string ⟨#[49, 32]⟩, .string ⟨#[32, 49]⟩, .string ⟨#[49, 46, 48]⟩, .string ⟨#[49, 101, 51]⟩, .string ⟨#[45, 45, 49]⟩, .string ⟨#[0]⟩] 22)) (some ⟨w.heap.size, 0, none⟩) badS := SlA.of_cells (heap_alloc_new w _) rfl
  have hB0 : Below w.heap.size w (w.alloc (.cells #[.string ⟨#[]⟩, .string ⟨#[45]⟩, .string ⟨#[45, 48]⟩, .string ⟨#[48, 48]⟩, .string ⟨#[48, 49]⟩, .string ⟨#[45, 48, 49]⟩, .string ⟨#[43, 49]⟩, .string ⟨#[49, 32]⟩, .string ⟨#[32, 49]⟩, .string ⟨#[49, 46, 48]⟩, .string ⟨#[49, 101, 51]⟩, .string ⟨#[45, 45, 49]⟩, .string ⟨#[0]⟩] 22)) := (Below.refl _ w).alloc (Nat.le_refl _) _
  clear hv
  go_enter Tryd.func3, Tryd.ntmps3
  go_wp2_with fail
  generalize w.alloc (.cells #[.string ⟨#[]⟩, .string ⟨#[45]⟩, .string ⟨#[45, 48]⟩, .string ⟨#[48, 48]⟩, .string ⟨#[48, 49]⟩, .string ⟨#[45, 48, 49]⟩, .string ⟨#[43, 49]⟩, .string ⟨#[49, 32]⟩, .string ⟨#[32, 49]⟩, .string ⟨#[49, 46, 48]⟩, .string ⟨#[49, 101, 51]⟩, .string ⟨#[45, 45, 49]⟩, .string ⟨#[0]⟩] 22) = w0 at *
  go_loopw [37] (fun i wr => ∃ k : Nat, k ≤ 13 ∧ i = .int .i64 k ∧ wr = w0) (fun i _ => 13 - (intOf i).toNat)
  case atStart => exact ⟨0, by omega, rfl, rfl⟩
  case round =>
    obtain ⟨k, hk, rfl, rfl⟩ := hrel
    by_cases hlt : k < 13
    · have hlt' : k < badS.length := hlt
      obtain ⟨b, o, e1, _, hc⟩ := hS.get hlt'
      injection e1 with e1
      injection e1 with e1 e2
      subst e1; subst e2
      have HC := Lib.hid (fun W => check_is _ badS[k] rfl (by
        have : ∀ s ∈ badS, s.data.toList.length ≤ 1100 := by decide +kernel
        exact this _ (List.getElem_mem hlt')) 12 (bad_chk _ (List.getElem_mem hlt')) W)
      generalize badS[k] = x at *
      rw [Nat.zero_add] at hc
      clear hS hB0 hlt'
      go_wp2_with (go_at_call 12; refine (HC.out _).mono ?_; rintro e w1 ⟨rfl, rfl⟩)
      go_roundw
      case rel => exact ⟨k + 1, by omega, by go_num, trivial⟩
      case measure => simp [intOf]; omega
    · obtain rfl : k = 13 := by omega
      clear hlt hk hS
      have HB := Lib.hid hB0
      obtain ⟨big, eb⟩ : ∃ b, nine 1000 = b := ⟨_, rfl⟩
      have HF : Hid (BigF big) := by rw [← eb]; exact big_f
      obtain ⟨B, hB⟩ : ∃ B : ByteArray, (⟨big.toArray⟩ : ByteArray) = B := ⟨_, rfl⟩
      obtain ⟨C, hC⟩ : ∃ C : ByteArray, (⟨(nine 1001).toArray⟩ : ByteArray) = C := ⟨_, rfl⟩
      have hBl : B.data.toList = big := by rw [← hB]
      have hCl : C.data.toList = nine 1001 := by rw [← hC]
      have hBs : B.size ≤ maxLen := by rw [Lib.size_eq, hBl]; have := HF.out.len; unfold maxLen; omega
      have hCs : C.size ≤ maxLen := by rw [Lib.size_eq, hCl]; unfold nine maxLen; simp
      have N1 : Hid (∀ w, Calls Tryd.prog 13 #[.int .i64 1000] w fun e w' => e = .returned (.string B) ∧ Below w.heap.size w w') := fun w => by
        have h := nines_any 1000 (by omega) w
        rw [eb, hB] at h
        exact h
      have N2 : Hid (∀ w, Calls Tryd.prog 13 #[.int .i64 1001] w fun e w' => e = .returned (.string C) ∧ Below w.heap.size w w') := fun w => by
        have h := nines_any 1001 (by omega) w
        rw [hC] at h
        exact h
      have hVT : VarT wr := (HV.out.below HB.out).t
      have A1 := fun W hW => add_any B ⟨#[49]⟩ hBs (by decide) W hW
      rw [hBl, HF.out.add] at A1
      replace A1 := Lib.hid A1
      obtain ⟨lm, hlm, hne⟩ := HF.out.sub
      obtain ⟨L, hL⟩ : ∃ L : ByteArray, (⟨lm.toArray⟩ : ByteArray) = L := ⟨_, rfl⟩
      have A2 := fun W hW => sub_any B ⟨#[49]⟩ hBs (by decide) W hW
      rw [hBl, hlm] at A2
      replace A2 : Hid (∀ W, VarT W → Calls Tryd.prog 15 #[.string B, .string ⟨#[49]⟩] W fun e w' => e = .returned (.tuple #[.string L, .int .i64 0]) ∧ Below W.heap.size W w') := by rw [← hL]; exact A2
      have hLB : (L.toList == B.toList) = false := by
        rw [Lib.toList_data, Lib.toList_data, beq_eq_false_iff_ne, hBl, ← hL]; exact hne
      have hBz : B.size ≤ 1000 := by rw [Lib.size_eq, hBl]; exact HF.out.len
      have hDl : ((⟨#[45]⟩ : ByteArray) ++ B).data.toList = 45 :: big := by rw [← hBl]; simp
      have hDs : ((⟨#[45]⟩ : ByteArray) ++ B).size ≤ maxLen := by rw [Lib.size_eq, hDl, List.length_cons]; have := HF.out.len; unfold maxLen; omega
      have A3 := fun W hW => sub_any ((⟨#[45]⟩ : ByteArray) ++ B) ⟨#[49]⟩ hDs (by decide) W hW
      rw [hDl, HF.out.subm] at A3
      replace A3 := Lib.hid A3
      have A4 := fun W hW => mul_any B ⟨#[50]⟩ hBs (by decide) W hW
      rw [hBl, HF.out.mul] at A4
      replace A4 := Lib.hid A4
      have A5 := fun W hW => add_any ⟨#[120]⟩ C (by decide) hCs W hW
      rw [hCl, big1_f.1] at A5
      replace A5 := Lib.hid A5
      have A6 := fun W hW => add_any C ⟨#[120]⟩ hCs (by decide) W hW
      rw [hCl, big1_f.2] at A6
      replace A6 := Lib.hid A6
      have K1 := Lib.hid (fun W => check_is _ B hBl (by have := HF.out.len; omega) 0 HF.out.ck W)
      have K2 := Lib.hid (fun W => check_is _ ((⟨#[45]⟩ : ByteArray) ++ B) hDl (by rw [List.length_cons]; have := HF.out.len; omega) 0 HF.out.ckm W)
      have K3 := Lib.hid (fun W => check_is _ C hCl (by unfold nine; simp) 14 big1_facts W)
      have hcs : ¬ 9223372036854775807 < 1 + B.size := by omega
      have HAL := Lib.hid alive_any
      have M1 := Lib.hid nc_dm1
      have M2 := Lib.hid nc_dm2
      have M3 := Lib.hid nc_gc
      have M4 := Lib.hid nc_to1
      have M5 := Lib.hid nc_to2
      have M6 := Lib.hid nc_to3
      have M7 := Lib.hid nc_to4
      have M8 := Lib.hid nc_cm
      have M9 := Lib.hid nc_of1
      have M10 := Lib.hid nc_of2
      clear eb hB hC hB0 hlm hVT hL hne hBl hCl hDl hDs hBs hCs hBz HF
      have T0 : Hid True := trivial
      go_wp2_with (first
        | (go_at_call 13; have _t := T0.out; (with_reducible refine (N1.out _).mono ?_); rintro e x0 ⟨rfl, b⟩; have y0 := bt HB.out b; clear b; clear _t T0; have T1 : Hid True := trivial)
        | (go_at_call 14; (with_reducible refine (A1.out _ (HV.out.below y0).t).mono ?_); rintro e x1 ⟨rfl, b⟩; have y1 := bt y0 b; clear b; have T2 : Hid True := trivial)
        | (go_at_call 15; (with_reducible refine (A2.out _ (HV.out.below y1).t).mono ?_); rintro e x2 ⟨rfl, b⟩; have y2 := bt y1 b; clear b; have T3 : Hid True := trivial)
        | (go_at_call 15; (with_reducible refine (A3.out _ (HV.out.below y2).t).mono ?_); rintro e x3 ⟨rfl, b⟩; have y3 := bt y2 b; clear b; have T4 : Hid True := trivial)
        | (go_at_call 16; (with_reducible refine (A4.out _ (HV.out.below y3).t).mono ?_); rintro e x4 ⟨rfl, b⟩; have y4 := bt y3 b; clear b; have T5 : Hid True := trivial)
        | (go_at_call 13; have _t := T5.out; (with_reducible refine (N2.out _).mono ?_); rintro e x5 ⟨rfl, b⟩; have y5 := bt y4 b; clear b; clear _t T5; have T6 : Hid True := trivial)
        | (go_at_call 14; (with_reducible refine (A5.out _ (HV.out.below y5).t).mono ?_); rintro e x6 ⟨rfl, b⟩; have y6 := bt y5 b; clear b; have T7 : Hid True := trivial)
        | (go_at_call 13; have _t := T7.out; (with_reducible refine (N2.out _).mono ?_); rintro e x7 ⟨rfl, b⟩; have y7 := bt y6 b; clear b; clear _t T7; have T8 : Hid True := trivial)
        | (go_at_call 14; (with_reducible refine (A6.out _ (HV.out.below y7).t).mono ?_); rintro e x8 ⟨rfl, b⟩; have y8 := bt y7 b; clear b; have T9 : Hid True := trivial)
        | (go_at_call 17; (with_reducible refine (M1.out _ (HV.out.below y8).t).mono ?_); rintro e x9 ⟨rfl, b⟩; have y9 := bt y8 b; clear b; have T10 : Hid True := trivial)
        | (go_at_call 17; (with_reducible refine (M2.out _ (HV.out.below y9).t).mono ?_); rintro e x10 ⟨rfl, b⟩; have y10 := bt y9 b; clear b; have T11 : Hid True := trivial)
        | (go_at_call 18; (with_reducible refine (M3.out _ (HV.out.below y10).t).mono ?_); rintro e x11 ⟨rfl, b⟩; have y11 := bt y10 b; clear b; have T12 : Hid True := trivial)
        | (go_at_call 19; (with_reducible refine (M4.out _ (HV.out.below y11)).mono ?_); rintro e x12 ⟨rfl, b⟩; have y12 := bt y11 b; clear b; have T13 : Hid True := trivial)
        | (go_at_call 19; (with_reducible refine (M5.out _ (HV.out.below y12)).mono ?_); rintro e x13 ⟨rfl, b⟩; have y13 := bt y12 b; clear b; have T14 : Hid True := trivial)
        | (go_at_call 19; (with_reducible refine (M6.out _ (HV.out.below y13)).mono ?_); rintro e x14 ⟨rfl, b⟩; have y14 := bt y13 b; clear b; have T15 : Hid True := trivial)
        | (go_at_call 19; (with_reducible refine (M7.out _ (HV.out.below y14)).mono ?_); rintro e x15 ⟨rfl, b⟩; have y15 := bt y14 b; clear b; have T16 : Hid True := trivial)
        | (go_at_call 20; (with_reducible refine (M8.out _ (HV.out.below y15).t).mono ?_); rintro e x16 ⟨rfl, b⟩; have y16 := bt y15 b; clear b; have T17 : Hid True := trivial)
        | (go_at_call 21; (with_reducible refine (HAL.out _ (HV.out.below y16).t).mono ?_); rintro e x17 ⟨rfl, b⟩; have y17 := bt y16 b; clear b; have T18 : Hid True := trivial)
        | (go_at_call 13; have _t := T18.out; (with_reducible refine (N2.out _).mono ?_); rintro e x18 ⟨rfl, b⟩; have y18 := bt y17 b; clear b; clear _t T18; have T19 : Hid True := trivial)
        | (go_at_call 22; (with_reducible refine (M9.out _ (HV.out.below y18)).mono ?_); rintro e x19 ⟨rfl, b⟩; have y19 := bt y18 b; clear b; have T20 : Hid True := trivial)
        | (go_at_call 22; (with_reducible refine (M10.out _ (HV.out.below y19)).mono ?_); rintro e x20 ⟨rfl, b⟩; have y20 := bt y19 b; clear b; have T21 : Hid True := trivial)
        | (go_at_call 12; (with_reducible refine (K1.out _).mono ?_); rintro e z ⟨rfl, rfl⟩)
        | (go_at_call 12; (with_reducible refine (K2.out _).mono ?_); rintro e z ⟨rfl, rfl⟩)
        | (go_at_call 12; (with_reducible refine (K3.out _).mono ?_); rintro e z ⟨rfl, rfl⟩))
      go_ret
      exact ⟨rfl, y20⟩
end Go.Proofs.YtlipjedofegciaaDoor

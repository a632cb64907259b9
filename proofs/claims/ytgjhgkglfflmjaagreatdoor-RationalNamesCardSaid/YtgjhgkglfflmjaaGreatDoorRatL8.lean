/- The walk of the law RationalNames. -/
import Derived.Test.YtgjhgkglfflmjaaGreatDoorRatAp
import Derived.Test.YtgjhgkglfflmjaaGreatDoorRatL7
namespace Go.Proofs.YtgjhgkglfflmjaaGreatDoor
open Go Go.RowKit

def badR : List ByteArray := [⟨#[]⟩, ⟨#[47]⟩, ⟨#[49, 47]⟩, ⟨#[47, 50]⟩, ⟨#[50, 47, 49]⟩, ⟨#[52, 47, 50]⟩, ⟨#[48, 47, 50]⟩, ⟨#[49, 47, 45, 50]⟩, ⟨#[49, 47, 48]⟩, ⟨#[49, 47, 50, 47, 51]⟩, ⟨#[45, 48]⟩, ⟨#[49, 47, 48, 50]⟩, ⟨#[45, 49, 47, 45, 50]⟩, ⟨#[32, 49, 47, 50]⟩, ⟨#[49, 46, 53]⟩]
theorem badR_chk : ∀ s ∈ badR, chkR s.data.toList = 12 := by decide +kernel
theorem badR_size : ∀ s ∈ badR, s.size ≤ 1048576 := by decide +kernel
theorem one_dgs : ∀ n, 9 * vl 10 (dgs (one1 n)) + 1 = 10 ^ n := by
  intro n
  have h : dgs (one1 n) = List.replicate n 1 := by
    unfold dgs one1
    rw [List.reverse_replicate, List.map_replicate]; rfl
  rw [h]
  clear h
  induction n with
  | zero => rfl
  | succ n ih =>
    rw [List.replicate_succ, Nat.pow_succ]
    simp only [vl]
    omega
theorem one_ng (n : Nat) : ngB (one1 n) = false := by
  cases n with
  | zero => rfl
  | succ n => rfl
theorem one_bod (n : Nat) : bod (one1 n) = one1 n := bod_pos _ (one_ng n)
theorem one_num (n : Nat) : num (one1 n) = (vl 10 (dgs (one1 n)) : Nat) := by
  unfold num
  rw [one_ng, one_bod]; rfl
theorem one_chk (n : Nat) (h : 0 < n) : chk (one1 n) = if 1000 < n then 14 else 0 := by
  obtain ⟨m, rfl⟩ : ∃ m, n = m + 1 := ⟨n - 1, by omega⟩
  have h0 : ¬ one1 (m + 1) = [48] := by unfold one1; rw [List.replicate_succ]; simp
  have h1 : szB (one1 (m + 1)) = true := by unfold one1; rw [List.replicate_succ]; rfl
  have h2 : odB (one1 (m + 1)) = true := by unfold odB one1; rw [List.all_replicate]; simp [dgB]
  have h3 : (one1 (m + 1)).length = m + 1 := by unfold one1; simp
  unfold chk
  rw [if_neg h0, one_bod, h1, h2, h3]
  rfl
/-- What is true of one over a number of a thousand ones. -/
structure WideF (O : ByteArray) (q : Rat) : Prop where
  text : (⟨#[49, 47]⟩ : ByteArray) ++ O = rq q
  sml : Sml q
  num1 : q.num = 1
  big : LB ((q.den : Int) * 11) = false
theorem wide_f : ∃ q : Rat, WideF ⟨(one1 thou).toArray⟩ q := by
  have hd := one_dgs thou
  have hc : chk (one1 thou) = 0 := by rw [one_chk thou (by decide), if_neg (by decide)]
  have hn := one_num thou
  have hl : 100 ≤ lim := by have := le_lim 2 (by omega); omega
  have hlim : 9 * vl 10 (dgs (one1 thou)) + 1 = lim := by rw [hd]; unfold lim; rfl
  have hi0 : ∀ l : List UInt8, chk l = 0 → Lib.itoa (num l) = l := fun l g => by
    have h := rep_num ⟨l.toArray⟩ g
    exact (congrArg (fun s : ByteArray => s.data.toList) h).symm
  have hi := hi0 _ hc
  rw [hn] at hi
  generalize vl 10 (dgs (one1 thou)) = m at *
  clear hd
  refine ⟨⟨1, m, by omega, Nat.coprime_one_left m⟩, ?_, ⟨?_, ?_⟩, rfl, ?_⟩
  · apply WideShapes.bytes_inj
    rw [rq_data]
    show _ = txtL (Lib.itoa 1) (Lib.itoa (m : Int))
    unfold txtL
    rw [if_neg (fun h => by
      have h2 := congrArg num h
      rw [num_itoa, num_one] at h2
      omega), itoa_one, hi]
    simp
  · show (1 : Int).natAbs < lim
    omega
  · show ((m : Int)).natAbs < lim
    omega
  · show LB ((m : Int) * 11) = false
    unfold LB
    exact decide_eq_false (by omega)
theorem long_f : chkR ((⟨#[50, 47]⟩ : ByteArray) ++ ⟨(one1 thou).toArray⟩ ++ ⟨#[49]⟩).data.toList = 14 := by
  have e : ((⟨#[50, 47]⟩ : ByteArray) ++ ⟨(one1 thou).toArray⟩ ++ ⟨#[49]⟩).data.toList = [50] ++ 47 :: one1 1001 := by
    have e1 : one1 1001 = one1 thou ++ [49] := by unfold one1; rw [show (1001 : Nat) = thou + 1 from rfl, List.replicate_succ']
    rw [e1]
    generalize one1 thou = l
    simp
  rw [e]
  have hs := spl_mid [50] (one1 1001) (by decide)
  have h1 : nB ([50] ++ 47 :: one1 1001) = [50] := by unfold nB; rw [hs]
  have h2 : dB ([50] ++ 47 :: one1 1001) = one1 1001 := by unfold dB; rw [hs]
  have h3 : chk (one1 1001) = 14 := by rw [one_chk 1001 (by decide)]; rfl
  have h4 : chk [50] = 0 := by decide +kernel
  have h5 : okD (one1 1001) = true := by
    unfold okD
    rw [one_ng]
    have a1 : (one1 1001 == [48]) = false := by
      rw [beq_eq_false_iff_ne]; intro h
      unfold one1 at h
      rw [show (1001 : Nat) = thou + 1 from rfl, List.replicate_succ] at h
      injection h with h1
      exact absurd h1 (by decide)
    have a2 : (one1 1001 == [49]) = false := by
      rw [beq_eq_false_iff_ne]; intro h
      have := congrArg List.length h
      unfold one1 at this
      rw [List.length_replicate] at this
      exact absurd this (by decide)
    rw [a1, a2]; rfl
  unfold chkR
  rw [h1, h2, h3, h4, h5, if_neg (by simp), if_pos (by simp)]
def q11 : Rat := Rat.divInt 1 11
theorem q11_f : rq q11 = ⟨#[49, 47, 49, 49]⟩ ∧ q11.num = 1 ∧ q11.den = 11 ∧ QD 2 q11 := by unfold QD Dg; decide +kernel
def q113 : Rat := Rat.divInt 11 3
theorem q113_f : rq q113 = ⟨#[49, 49, 47, 51]⟩ ∧ q113.num = 11 ∧ q113.den = 3 ∧ QD 2 q113 := by unfold QD Dg; decide +kernel
section
variable {O : ByteArray} {q : Rat} (h : WideF O q) (s : ByteArray) (hs : rq q = s)
include h hs
theorem wide_mul (w : World) (hv : VarR w) : Calls Tryz.prog 13 #[.string s, .string ⟨#[49, 47, 49, 49]⟩] w (StE ⟨#[]⟩ 14 w) := by
  obtain ⟨e1, e2, e3, e4⟩ := q11_f
  have k := rmul_any (rq q) (rq q11) (by have := rq_size h.sml; omega) (by rw [e1]; decide) w hv
  have hc : mulC q q11 = 14 := by
    unfold mulC
    rw [e3]
    rw [show ((11 : Nat) : Int) = 11 from rfl, h.big, Bool.and_false]; rfl
  rw [twT_rq h.sml (e4.sml (by omega)), twC_rq h.sml (e4.sml (by omega)), hc, qT_err (by decide), e1, hs] at k
  exact k
theorem wide_add (w : World) (hv : VarR w) : Calls Tryz.prog 14 #[.string s, .string ⟨#[49, 47, 49, 49]⟩] w (StE ⟨#[]⟩ 14 w) := by
  obtain ⟨e1, e2, e3, e4⟩ := q11_f
  have k := radd_any (rq q) (rq q11) (by have := rq_size h.sml; omega) (by rw [e1]; decide) w hv
  have hc : addC q q11 = 14 := by
    unfold addC
    rw [e3]
    rw [show ((11 : Nat) : Int) = 11 from rfl, h.big, Bool.and_false, Bool.false_and]; rfl
  rw [twT_rq h.sml (e4.sml (by omega)), twC_rq h.sml (e4.sml (by omega)), hc, qT_err (by decide), e1, hs] at k
  exact k
theorem wide_cmp (w : World) (hv : VarR w) : Calls Tryz.prog 15 #[.string s, .string ⟨#[49, 49, 47, 51]⟩] w (CmE 0 14 w) := by
  obtain ⟨e1, e2, e3, e4⟩ := q113_f
  have k := rcompare_any (rq q) (rq q113) (by have := rq_size h.sml; omega) (by rw [e1]; decide) w hv
  have hc : comC q q113 = 14 := by
    unfold comC
    rw [e2, Int.mul_comm 11, h.big, Bool.and_false]; rfl
  unfold twK at k
  rw [twC_rq h.sml (e4.sml (by omega)), hc, if_neg (by decide), e1, hs] at k
  exact k
theorem wide_chk (w : World) (hv : VarR w) : Calls Tryz.prog 11 #[.string s] w (IntB 0 w) := by
  have k := rcheck_any (rq q) (by have := rq_size h.sml; omega) w hv
  rw [rq_chk h.sml, hs] at k
  exact k
end

theorem nm_d1 (w : World) (hv : VarR w) : Calls Tryz.prog 16 #[.string ⟨#[49]⟩, .string ⟨#[48]⟩] w (StE ⟨#[]⟩ 16 w) := by
  have h := rdiv_any ⟨#[49]⟩ ⟨#[48]⟩ (by decide) (by decide) w hv
  rw [show twC divC (⟨#[49]⟩ : ByteArray).data.toList (⟨#[48]⟩ : ByteArray).data.toList = 16 by decide +kernel, show twT divC (· / ·) (⟨#[49]⟩ : ByteArray).data.toList (⟨#[48]⟩ : ByteArray).data.toList = ⟨#[]⟩ by decide +kernel] at h
  exact h
theorem nm_d2 (w : World) (hv : VarR w) : Calls Tryz.prog 16 #[.string ⟨#[120]⟩, .string ⟨#[48]⟩] w (StE ⟨#[]⟩ 12 w) := by
  have h := rdiv_any ⟨#[120]⟩ ⟨#[48]⟩ (by decide) (by decide) w hv
  rw [show twC divC (⟨#[120]⟩ : ByteArray).data.toList (⟨#[48]⟩ : ByteArray).data.toList = 12 by decide +kernel, show twT divC (· / ·) (⟨#[120]⟩ : ByteArray).data.toList (⟨#[48]⟩ : ByteArray).data.toList = ⟨#[]⟩ by decide +kernel] at h
  exact h
theorem nm_r1 (w : World) (hv : VarR w) : Calls Tryz.prog 17 #[.int .i64 1, .int .i64 0] w (StE ⟨#[]⟩ 16 w) := by
  have h := ratio_any 1 0 (by omega) (by omega) (by omega) (by omega) w hv.t
  rw [show mkS (Lib.itoa 1) (Lib.itoa 0) = ([], 16) by decide +kernel] at h
  exact h
theorem nm_r2 (w : World) (hv : VarR w) : Calls Tryz.prog 17 #[.int .i64 (-9223372036854775808), .int .i64 (-1)] w (StE ⟨#[57, 50, 50, 51, 51, 55, 50, 48, 51, 54, 56, 53, 52, 55, 55, 53, 56, 48, 56]⟩ 0 w) := by
  have h := ratio_any (-9223372036854775808) (-1) (by omega) (by omega) (by omega) (by omega) w hv.t
  rw [show mkS (Lib.itoa (-9223372036854775808)) (Lib.itoa (-1)) = ([57, 50, 50, 51, 51, 55, 50, 48, 51, 54, 56, 53, 52, 55, 55, 53, 56, 48, 56], 0) by decide +kernel] at h
  exact h
theorem nm_mk (w : World) (hv : VarR w) : Calls Tryz.prog 18 #[.string ⟨#[48]⟩, .string ⟨#[48]⟩] w (StE ⟨#[]⟩ 16 w) := by
  have h := make_any ⟨#[48]⟩ ⟨#[48]⟩ (by decide) (by decide) w hv.t
  rw [show mkS (⟨#[48]⟩ : ByteArray).data.toList (⟨#[48]⟩ : ByteArray).data.toList = ([], 16) by decide +kernel] at h
  exact h
theorem nm_p1 (w : World) (hv : VarR w) : Calls Tryz.prog 19 #[.string ⟨#[48]⟩, .int .i64 (-1)] w (StE ⟨#[]⟩ 16 w) := by
  exact power_zneg (-1) (by omega) (by omega) _ rq_zero w hv
theorem nm_p2 (w : World) (hv : VarR w) : Calls Tryz.prog 19 #[.string ⟨#[48]⟩, .int .i64 0] w (StE ⟨#[49]⟩ 0 w) := by
  exact power_small 0 (qd_zero.mono (by omega)) _ rq_zero 0 (by omega) (by omega) (.inr (by omega)) 1 rfl _ rq_one w hv
theorem nm_p3 (w : World) (_hv : VarR w) : Calls Tryz.prog 19 #[.string ⟨#[49]⟩, .int .i64 1001] w (StE ⟨#[]⟩ 2 w) := by
  exact power_arg _ 1001 (.inr (by omega)) w
theorem nm_p4 (w : World) (hv : VarR w) : Calls Tryz.prog 19 #[.string ⟨#[49, 48]⟩, .int .i64 1000] w (StE ⟨#[]⟩ 14 w) := by
  have e0 : rq 10 = ⟨#[49, 48]⟩ := by decide +kernel
  have e1 : QD 2 10 := by unfold QD Dg; decide +kernel
  have k := power_q 10 (e1.sml (by omega)) 1000 (by omega) (by omega) w hv
  have hc : pwC 10 1000 = 14 := by
    unfold pwC
    rw [if_neg (by omega), show (1000 : Int).toNat = thou from rfl]
    unfold powC
    have hb : LB ((10 : Rat).num ^ thou) = false := by
      unfold LB
      refine decide_eq_false ?_
      rw [show (10 : Rat).num = 10 from rfl, Int.natAbs_pow, show (10 : Int).natAbs = 10 from rfl]
      exact Nat.not_lt.2 (lim_le thou (by decide))
    rw [hb, Bool.false_and]
    exact if_neg Bool.false_ne_true
  rw [hc, qT_err (by decide), e0] at k
  exact k
theorem nm_p5 (w : World) (hv : VarR w) : Calls Tryz.prog 19 #[.string ⟨#[45, 50, 47, 51]⟩, .int .i64 (-3)] w (StE ⟨#[45, 50, 55, 47, 56]⟩ 0 w) := by
  have e0 : rq (Rat.divInt (-2) 3) = ⟨#[45, 50, 47, 51]⟩ := by decide +kernel
  have e1 : QD 1 (Rat.divInt (-2) 3) := by unfold QD Dg; decide +kernel
  have k := power_q (Rat.divInt (-2) 3) (e1.sml (by omega)) (-3) (by omega) (by omega) w hv
  rw [show pwC (Rat.divInt (-2) 3) (-3) = 0 from pwC_small (e1.mono (by omega)) (by omega) (by omega) (.inl (by decide +kernel)), qT_ok, show rq (pwV (Rat.divInt (-2) 3) (-3)) = ⟨#[45, 50, 55, 47, 56]⟩ by decide +kernel, e0] at k
  exact k
theorem nm_s1 (w : World) (hv : VarR w) : Calls Tryz.prog 20 #[.slice none 0 0] w (StE ⟨#[48]⟩ 0 w) := by
  have k := rsum_any none 0 [] w SlA.nil (.inr (by simp)) hv
  rw [show sumC [] = 0 from rfl, show sumT [] = ⟨#[48]⟩ by decide +kernel] at k
  exact k
theorem nm_q1 (w : World) (_hv : VarR w) : Calls Tryz.prog 21 #[.string ⟨#[49]⟩, .int .u8 5] w (StE ⟨#[]⟩ 2 w) := by
  exact Round_mode _ 5 (by omega) (by omega) w
theorem Tryz.infoR2 : (Tryz.prog.info? 22).map (fun i => (i.zero, i.size, i.bytes)) = some (some (.string ⟨#[]⟩), 1, 16) := by kernel_rfl
set_option maxRecDepth 100000 in
set_option maxHeartbeats 6400000 in
theorem names2_law (w : World) (hv : VarR w) :
    Calls Tryz.prog 3 #[] w fun e w' => e = .returned (.bool true) ∧ Below w.heap.size w w' := by
  obtain ⟨i0, hi, hz0, hz1, hz2⟩ := info_parts Tryz.infoR2
  have HV := Lib.hid hv
  have hS : SlA Value.string (w.alloc (.cells #[.string ⟨#[]⟩, .string ⟨#[47]⟩, .string ⟨#[49, 47]⟩, .string ⟨#[47, 50]⟩, .string ⟨#[50, 47, 49]⟩, .string ⟨#[52, 47, 50]⟩, .string ⟨#[48, 47, 50]⟩, .string ⟨#[49, 47, 45, 50]⟩, .string ⟨#[49, 47, 48]⟩, .string ⟨#[49, 47, 50, 47, 51]⟩, .string ⟨#[45, 48]⟩, .string ⟨#[49, 47, 48, 50]⟩, .string ⟨#[45, 49, 47, 45, 50]⟩, .string ⟨#[32, 49, 47, 50]⟩, .string ⟨#[49, 46, 53]⟩] 22)) (some ⟨w.heap.size, 0, none⟩) badR := SlA.of_cells (heap_alloc_new w _) rfl
  have hB0 : Below w.heap.size w (w.alloc (.cells #[.string ⟨#[]⟩, .string ⟨#[47]⟩, .string ⟨#[49, 47]⟩, .string ⟨#[47, 50]⟩, .string ⟨#[50, 47, 49]⟩, .string ⟨#[52, 47, 50]⟩, .string ⟨#[48, 47, 50]⟩, .string ⟨#[49, 47, 45, 50]⟩, .string ⟨#[49, 47, 48]⟩, .string ⟨#[49, 47, 50, 47, 51]⟩, .string ⟨#[45, 48]⟩, .string ⟨#[49, 47, 48, 50]⟩, .string ⟨#[45, 49, 47, 45, 50]⟩, .string ⟨#[32, 49, 47, 50]⟩, .string ⟨#[49, 46, 53]⟩] 22)) := (Below.refl _ _).alloc (Nat.le_refl _) _
  clear hv
  go_enter Tryz.func3, Tryz.ntmps3
  go_wp2_with fail
  generalize w.alloc (.cells #[.string ⟨#[]⟩, .string ⟨#[47]⟩, .string ⟨#[49, 47]⟩, .string ⟨#[47, 50]⟩, .string ⟨#[50, 47, 49]⟩, .string ⟨#[52, 47, 50]⟩, .string ⟨#[48, 47, 50]⟩, .string ⟨#[49, 47, 45, 50]⟩, .string ⟨#[49, 47, 48]⟩, .string ⟨#[49, 47, 50, 47, 51]⟩, .string ⟨#[45, 48]⟩, .string ⟨#[49, 47, 48, 50]⟩, .string ⟨#[45, 49, 47, 45, 50]⟩, .string ⟨#[32, 49, 47, 50]⟩, .string ⟨#[49, 46, 53]⟩] 22) = w0 at *
  go_loopw [39] (fun i wr => ∃ k : Nat, k ≤ 15 ∧ i = .int .i64 k ∧ Below w0.heap.size w0 wr) (fun i _ => 15 - (intOf i).toNat)
  case atStart => exact ⟨0, by omega, rfl, Below.refl _ _⟩
  case round =>
    obtain ⟨k, hk, rfl, hb2⟩ := hrel
    by_cases hlt : k < 15
    · have hlt' : k < badR.length := hlt
      obtain ⟨b, o, e1, _, hc⟩ := (hS.below hb2).get hlt'
      injection e1 with e1
      injection e1 with e1 e2
      subst e1; subst e2
      have HC := Lib.hid (fun W hW => rcheck_any badR[k] (badR_size _ (List.getElem_mem hlt')) W hW)
      rw [badR_chk _ (List.getElem_mem hlt')] at HC
      have HVW := Lib.hid (HV.out.below (bt hB0 hb2))
      generalize badR[k] = x at *
      rw [Nat.zero_add] at hc
      clear hS hB0 hlt'
      go_wp2_with (go_at_call 11; refine (HC.out _ HVW.out).mono ?_; rintro e w1 ⟨rfl, b⟩; have B2 := Lib.hid (bt hb2 b); clear b)
      go_roundw
      case rel => exact ⟨k + 1, by omega, by go_num, B2.out⟩
      case measure => simp [intOf]; omega
    · obtain rfl : k = 15 := by omega
      have HB := Lib.hid (bt hB0 hb2)
      clear hlt hk hS hb2
      obtain ⟨q, hq⟩ := wide_f
      obtain ⟨O, hO⟩ : ∃ O : ByteArray, (⟨(one1 thou).toArray⟩ : ByteArray) = O := ⟨_, rfl⟩
      have N1 : Hid (∀ w, Calls Tryz.prog 12 #[.int .i64 1000] w fun e w' => e = .returned (.string O) ∧ Below w.heap.size w w') := fun w => by
        have h := ones_any 1000 (by omega) w
        rw [show (⟨(one1 1000).toArray⟩ : ByteArray) = O from hO] at h
        exact h
      have hl := long_f
      have hsz : O.size = 1000 := by rw [← hO]; show (one1 thou).length = 1000; unfold one1; rw [List.length_replicate]; rfl
      rw [hO] at hq hl
      obtain ⟨W1, hW1⟩ : ∃ s, rq q = s := ⟨_, rfl⟩
      have A1 := Lib.hid (wide_mul hq W1 hW1)
      have A2 := Lib.hid (wide_add hq W1 hW1)
      have A3 := Lib.hid (wide_cmp hq W1 hW1)
      have K1 := Lib.hid (wide_chk hq W1 hW1)
      have t1 := hq.text
      rw [hW1] at t1
      have t2 : W1.extract 2 W1.size = O := by
        have h2 : W1.data.toList.drop 2 = O.data.toList := by rw [← t1]; simp
        exact ext_drop W1 2 O.data.toList h2
      obtain ⟨Y, hY⟩ : ∃ s, (⟨#[50, 47]⟩ : ByteArray) ++ O = s := ⟨_, rfl⟩
      rw [hY] at hl
      obtain ⟨Z, hZ⟩ : ∃ s, Y ++ (⟨#[49]⟩ : ByteArray) = s := ⟨_, rfl⟩
      rw [hZ] at hl
      have y1 : Y.size = 1002 := by rw [← hY, ByteArray.size_append, hsz]; rfl
      have w1s : W1.size = 1002 := by rw [← t1, ByteArray.size_append, hsz]; rfl
      rw [w1s] at t2
      have z1 : Z.size = 1003 := by rw [← hZ, ByteArray.size_append, y1]; rfl
      have K2 := fun W hW => rcheck_any Z (by omega) W hW
      rw [hl] at K2
      replace K2 := Lib.hid K2
      have s1 : ¬ 9223372036854775807 < 2 + O.size := by omega
      have s2 : ¬ 9223372036854775807 < Y.size + 1 := by omega
      have s3 : ¬ 9223372036854775807 < 2 + O.size + 1 := by omega
      have HAL := Lib.hid ralive_any

      have M1 := Lib.hid nm_d1
      have M2 := Lib.hid nm_d2
      have M3 := Lib.hid nm_r1
      have M4 := Lib.hid nm_mk
      have M5 := Lib.hid nm_p1
      have M6 := Lib.hid nm_p2
      have M7 := Lib.hid nm_p3
      have M8 := Lib.hid nm_p4
      have M9 := Lib.hid nm_p5
      have M10 := Lib.hid nm_s1
      have M11 := Lib.hid nm_q1
      have M12 := Lib.hid nm_r2
      clear hO hl hq hW1 hB0
      go_wp2_with (first
        | (go_at_call 12; (with_reducible refine (N1.out _).mono ?_); rintro e x1 ⟨rfl, b⟩; have D1 := Lib.hid (bt HB.out b); clear b)
        | (go_at_call 13; (with_reducible refine (A1.out _ (HV.out.below D1.out)).mono ?_); rintro e x2 ⟨rfl, b⟩; have D2 := Lib.hid (bt D1.out b); clear b)
        | (go_at_call 14; (with_reducible refine (A2.out _ (HV.out.below D2.out)).mono ?_); rintro e x3 ⟨rfl, b⟩; have D3 := Lib.hid (bt D2.out b); clear b)
        | (go_at_call 15; (with_reducible refine (A3.out _ (HV.out.below D3.out)).mono ?_); rintro e x4 ⟨rfl, b⟩; have D4 := Lib.hid (bt D3.out b); clear b)
        | (go_at_call 16; (with_reducible refine (M1.out _ (HV.out.below D4.out)).mono ?_); rintro e x5 ⟨rfl, b⟩; have D5 := Lib.hid (bt D4.out b); clear b)
        | (go_at_call 16; (with_reducible refine (M2.out _ (HV.out.below D5.out)).mono ?_); rintro e x6 ⟨rfl, b⟩; have D6 := Lib.hid (bt D5.out b); clear b)
        | (go_at_call 17; (with_reducible refine (M3.out _ (HV.out.below D6.out)).mono ?_); rintro e x7 ⟨rfl, b⟩; have D7 := Lib.hid (bt D6.out b); clear b)
        | (go_at_call 18; (with_reducible refine (M4.out _ (HV.out.below D7.out)).mono ?_); rintro e x8 ⟨rfl, b⟩; have D8 := Lib.hid (bt D7.out b); clear b)
        | (go_at_call 19; (with_reducible refine (M5.out _ (HV.out.below D8.out)).mono ?_); rintro e x9 ⟨rfl, b⟩; have D9 := Lib.hid (bt D8.out b); clear b)
        | (go_at_call 19; (with_reducible refine (M6.out _ (HV.out.below D9.out)).mono ?_); rintro e x10 ⟨rfl, b⟩; have D10 := Lib.hid (bt D9.out b); clear b)
        | (go_at_call 19; (with_reducible refine (M7.out _ (HV.out.below D10.out)).mono ?_); rintro e x11 ⟨rfl, b⟩; have D11 := Lib.hid (bt D10.out b); clear b)
        | (go_at_call 19; (with_reducible refine (M8.out _ (HV.out.below D11.out)).mono ?_); rintro e x12 ⟨rfl, b⟩; have D12 := Lib.hid (bt D11.out b); clear b)
        | (go_at_call 19; (with_reducible refine (M9.out _ (HV.out.below D12.out)).mono ?_); rintro e x13 ⟨rfl, b⟩; have D13 := Lib.hid (bt D12.out b); clear b)
        | (at_make; refine wpList_make_full _ rfl _ _ 23 rfl x13.heap.size 22 i0 (.string ⟨#[]⟩) 1 Tryz.underlying23 hi hz0 hz1 _ _ _ _ 1001 rfl rfl (by omega) (by omega) (by rw [hz2]; omega) (by unfold maxLen; omega) (Nat.le_refl _) ?_; intro w1 hown hg1; have DM := Lib.hid (bt D13.out ((Below.refl _ _).grown hg1 (Nat.le_refl _) (fun k hk => by cases hk))); clear hown hg1)
        | (go_at_call 20; (have _t := DM); (with_reducible refine (sum_many _ _ 1001 _ (by omega)).mono ?_); rintro e x14 ⟨rfl, b⟩; have D14 := Lib.hid (bt DM.out b); clear b DM)
        | (go_at_call 20; (with_reducible refine (M10.out _ (HV.out.below D14.out)).mono ?_); rintro e x15 ⟨rfl, b⟩; have D15 := Lib.hid (bt D14.out b); clear b)
        | (go_at_call 21; (with_reducible refine (M11.out _ (HV.out.below D15.out)).mono ?_); rintro e x16 ⟨rfl, b⟩; have D16 := Lib.hid (bt D15.out b); clear b)
        | (go_at_call 17; (with_reducible refine (M12.out _ (HV.out.below D16.out)).mono ?_); rintro e x17 ⟨rfl, b⟩; have D17 := Lib.hid (bt D16.out b); clear b)
        | (go_at_call 22; (with_reducible refine (HAL.out _ (HV.out.below D17.out)).mono ?_); rintro e x18 ⟨rfl, b⟩; have D18 := Lib.hid (bt D17.out b); clear b)
        | (go_at_call 11; (with_reducible refine (K1.out _ (HV.out.below D18.out)).mono ?_); rintro e x19 ⟨rfl, b⟩; have D19 := Lib.hid (bt D18.out b); clear b)
        | (go_at_call 11; (with_reducible refine (K2.out _ (HV.out.below D19.out)).mono ?_); rintro e x20 ⟨rfl, b⟩; have D20 := Lib.hid (bt D19.out b); clear b))
      go_ret
      exact ⟨rfl, D20.out⟩
end Go.Proofs.YtgjhgkglfflmjaaGreatDoor

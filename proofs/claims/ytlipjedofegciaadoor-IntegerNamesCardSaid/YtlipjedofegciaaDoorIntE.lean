/- The walks of layer 1: the program's Gcd. -/
import Derived.Test.YtlipjedofegciaaDoorIntK7
import Derived.Test.YtlipjedofegciaaDoorIntO3
import Derived.Test.YtlipjedofegciaaDoorIntQ5
namespace Go.Proofs.YtlipjedofegciaaDoor
open Go Go.RowKit

theorem rdN_ofU {w : World} {A : Option Addr} {xs : List Nat} {c : Nat} (h : SlA encU w A xs) : rdN w (.slice A xs.length c) = xs := by
  cases A with
  | none =>
    cases xs with
    | nil => rfl
    | cons x xs => obtain ⟨b, o, h1, _⟩ := h 0 x rfl; cases h1
  | some a =>
    refine List.ext_getElem (by simp [rdN]) fun j h1 h2 => ?_
    obtain ⟨b, o, e, _, hc⟩ := h.get h2
    injection e with e
    subst e
    simp only [rdN, List.getElem_map, List.getElem_range]
    unfold cellN; rw [hc]; rfl
theorem Nrm.len_le {xs ys : List Nat} (hx : Nrm xs) (hy : Nrm ys) (h : vl 1000000000 xs ≤ vl 1000000000 ys) : xs.length ≤ ys.length := by
  rcases Nat.lt_or_ge ys.length xs.length with hl | hl
  · have := cmp_len ys xs hy.lt hx.lt hx.top hl
    omega
  · exact hl
theorem Nrm.ne_of_pos {xs : List Nat} (h : 0 < xs.length) : xs ≠ [] := by rintro rfl; simp at h
theorem gcd_step {G x y : Nat} (h : Nat.gcd x y = G) : Nat.gcd y (x % y) = G := by
  rw [← h, Nat.gcd_comm y, ← Nat.gcd_rec, Nat.gcd_comm]

theorem field_size (m : Bool) (A : Option Addr) (n c : Nat) (w : World) : (Instr.field 70 (.agg #[.bool m, .slice A n c]) 1).run Tryd.prog w = .ok (.slice A n c) w := by kernel_rfl

section
variable (s t : ByteArray) (hs : s.size ≤ maxLen) (ht : t.size ≤ maxLen) (w : World) (hv : VarT w)
include hs ht hv
set_option maxRecDepth 100000 in
set_option maxHeartbeats 1600000 in
theorem gcd_any : Calls Tryd.prog 18 #[.string s, .string t] w fun e w' => e = .returned (.tuple #[.string ⟨(gcS s.data.toList t.data.toList).1.toArray⟩, .int .i64 (gcS s.data.toList t.data.toList).2]) ∧ Below w.heap.size w w' := by
  have CS := Lib.hid (fun W => check_any s W hs)
  have CT := Lib.hid (fun W => check_any t W ht)
  have HAL := Lib.hid (fun o => (Below.refl _ w).alloc (Nat.le_refl _) o)
  have HV := Lib.hid hv
  clear hv
  by_cases hb : bothE s.data.toList t.data.toList = 0
  · obtain ⟨hx, hy⟩ := bothE_zero hb
    have PS := Lib.hid (parse_r s hx)
    have PT := Lib.hid (parse_r t hy)
    rw [gcS_ok hb]
    rw [hx] at CS
    rw [hy] at CT
    obtain ⟨G, hG⟩ : ∃ G, Nat.gcd (num s.data.toList).natAbs (num t.data.toList).natAbs = G := ⟨_, rfl⟩
    have HG := Lib.hid hG
    rw [hG]
    generalize s.data.toList = ls at PS HG
    generalize t.data.toList = lt at PT HG
    clear hx hy hb hs ht hG
    have HO := Lib.hid (or_new 0 0 w)
    rw [if_pos rfl] at HO
    have hfd := field_size
    go_enter Tryd.func18, Tryd.ntmps18
    go_wp2_with (first
      | (go_at_call 12; (with_reducible refine (CS.out _).mono ?_); rintro e w1 ⟨rfl, rfl⟩)
      | (go_at_call 12; (with_reducible refine (CT.out _).mono ?_); rintro e w1 ⟨rfl, rfl⟩)
      | (go_at_call 45; refine (HO.out _).mono ?_; rintro e w1 ⟨rfl, rfl⟩)
      | (go_at_call 48; (with_reducible refine (PS.out _).mono ?_); rintro e w1 ⟨m1, A1, c1, xs, rfl, S1, N1, V1, L1, L1', C1, B1⟩)
      | (go_at_call 48; (with_reducible refine (PT.out _).mono ?_); rintro e w2 ⟨m2, A2, c2, ys, rfl, S2, N2, V2, L2, L2', C2, B2⟩
         have HGX : Hid (Nat.gcd (vl 1000000000 xs) (vl 1000000000 ys) = G) := by
           show _ = _
           rw [← HG.out, V1, V2, sgn_natAbs, sgn_natAbs]
         clear V1 V2))
    have HN1 := Lib.hid N1
    have HN2 := Lib.hid N2
    have S1' := S1.below B2
    have HB2 := bt (bt (HAL.out _) B1) B2
    clear N1 N2 S1 B1 B2 HG hfd
    go_loopw [7, 8] (fun x y wr => ∃ (A : Option Addr) (c : Nat) (xs : List Nat) (B : Option Addr) (d : Nat) (ys : List Nat), x = .slice A xs.length c ∧ y = .slice B ys.length d ∧ SlA encU wr A xs ∧ SlA encU wr B ys ∧ Hid (Nrm xs) ∧ Hid (Nrm ys) ∧
        xs.length ≤ 112 ∧ ys.length ≤ 112 ∧ Hid (Nat.gcd (vl 1000000000 xs) (vl 1000000000 ys) = G) ∧ Below w.heap.size w wr) (fun _ y wr => vl 1000000000 (rdN wr y))
    case atStart => exact ⟨A1, c1, xs, A2, c2, ys, rfl, rfl, S1', S2, HN1, HN2, L1, L2, HGX, HB2⟩
    case round =>
      clear S1' S2 HN1 HN2 L1 L2 HGX HB2 L1' L2' C1 C2
      obtain ⟨A, c, xs, B, d, ys, rfl, rfl, S1, S2, N1, N2, L1, L2, hg, hbel⟩ := hrel
      by_cases h0 : 0 < ys.length
      · have hne := Nrm.ne_of_pos h0
        have hp := N2.out.pos hne
        have HD := Lib.hid (divide_any A B c d xs ys wr S1 S2 N1.out.lt N2.out.lt (by omega) (by omega) hne (N2.out.top hne))
        have HY : Hid (vl 1000000000 (rdN wr (.slice B ys.length d)) = vl 1000000000 ys) := by show _ = _; rw [rdN_ofU S2]
        have HP := Lib.hid hp
        clear hne hp
        go_wp2_with (go_at_call 51; refine HD.out.mono ?_; rintro e w5 ⟨A5, c5, qs, A6, c6, rs, rfl, k1, k2, k3, k4, k5, k6, k7, k8, k9⟩; have K4 := Lib.hid k4; have K6 := Lib.hid k6; clear k1 k3 k4 k5 k6 k7 k8)
        go_roundw
        case rel => exact ⟨B, d, ys, A6, c6, rs, rfl, rfl, S2.below k9, k2, N2, K4, L2, Nat.le_trans (K4.out.len_le N2.out (by rw [K6.out]; exact Nat.le_of_lt (Nat.mod_lt _ HP.out))) L2, by rw [K6.out]; exact Lib.hid (gcd_step hg.out), hbel.trans (k9.mono hbel.size)⟩
        case measure => rw [HY.out]; show vl 1000000000 (rdN _ (.slice A6 rs.length c6)) < _; rw [rdN_ofU k2, K6.out]; exact Nat.mod_lt _ HP.out
      · have hy0 : ys = [] := List.eq_nil_of_length_eq_zero (by omega)
        subst hy0
        have HE : Hid (Lib.itoa (sgn false (vl 1000000000 xs)) = Lib.itoa (G : Int)) := by
          have := hg.out
          rw [show vl 1000000000 [] = 0 from rfl, Nat.gcd_zero_right] at this
          show _ = _
          rw [this]; rfl
        have HT := Lib.hid (text_of false A c xs wr S1 N1.out (by omega) (HV.out.below hbel))
        rw [HE.out] at HT
        rw [List.length_nil]
        go_wp2_with (go_at_call 54; refine HT.out.mono ?_; rintro e w5 ⟨rfl, k9⟩)
        go_ret2
        exact ⟨rfl, hbel.trans (k9.mono hbel.size)⟩
  · rw [gcS_err hb]
    unfold bothE at hb ⊢
    obtain ⟨x, hx⟩ : ∃ x, chk s.data.toList = x := ⟨_, rfl⟩
    obtain ⟨y, hy⟩ : ∃ y, chk t.data.toList = y := ⟨_, rfl⟩
    rw [hx] at CS hb ⊢
    rw [hy] at CT hb ⊢
    have HO := Lib.hid (or_new x y w)
    generalize (if x = 0 then y else x) = z at *
    have h1 : (z == 0) = false := by rw [beq_eq_false_iff_ne]; exact hb
    clear hx hy hs ht hb
    go_enter Tryd.func18, Tryd.ntmps18
    go_wp2_with (first
      | (go_at_call 12; (with_reducible refine (CS.out _).mono ?_); rintro e w1 ⟨rfl, rfl⟩)
      | (go_at_call 12; (with_reducible refine (CT.out _).mono ?_); rintro e w1 ⟨rfl, rfl⟩)
      | (go_at_call 45; refine (HO.out _).mono ?_; rintro e w1 ⟨rfl, rfl⟩))
    go_ret2
    exact ⟨rfl, HAL.out _⟩
end
end Go.Proofs.YtlipjedofegciaaDoor

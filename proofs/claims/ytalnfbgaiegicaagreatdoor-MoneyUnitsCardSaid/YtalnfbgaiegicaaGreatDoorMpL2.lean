/- Layer 7: the walk of MoneyBack. -/
import Derived.Test.YtalnfbgaiegicaaGreatDoorMpA
namespace Go.Proofs.YtalnfbgaiegicaaGreatDoor
open Go Go.RowKit

theorem fu_mul (n : Int) (c : List UInt8) : fuQ n c * uq (unU c) = (n : Rat) := by
  have h := (ten_le c).1
  unfold fuQ uq
  generalize ((10 ^ unU c : Nat) : Int) = d at *
  have hd : (d : Rat) ≠ 0 := by
    intro e
    have := Rat.intCast_inj.1 (e.trans (Rat.intCast_zero).symm)
    omega
  rw [Rat.divInt_eq_div, Rat.div_mul_cancel hd]
theorem rnd_int (m : Nat) (n : Int) : rndQ m (n : Rat) = n := by
  unfold rndQ
  rw [Rat.num_intCast, Rat.den_intCast, Int.natCast_one, Int.emod_one, if_pos rfl, Int.ediv_one]
theorem fu_sml {n : Int} (h : amB n = true) (c : List UInt8) : Sml (fuQ n c) := by
  obtain ⟨l1, l2, l3⟩ := fu_lim h c
  exact sml_divInt l3 l1 l2
theorem fu_dg {n : Int} (h : amB n = true) (c : List UInt8) : (fuQ n c).num.natAbs ≤ 1125899906842624 ∧ (fuQ n c).den ≤ 1000 := by
  obtain ⟨l1, l2, l3⟩ := fu_lim h c
  have h1 := (amB_iff n).1 h
  have h2 := ten_le c
  have e1 : (fuQ n c).num = qN n ((10 ^ unU c : Nat) : Int) := (qN_rat l3).symm
  have e2 : ((fuQ n c).den : Int) = qD n ((10 ^ unU c : Nat) : Int) := (qD_rat l3).symm
  refine ⟨?_, ?_⟩
  · rw [e1]
    have := Int.natAbs_ediv_le_natAbs n (qG n ((10 ^ unU c : Nat) : Int))
    unfold qN
    omega
  · have := Int.natAbs_ediv_le_natAbs ((10 ^ unU c : Nat) : Int) (qG n ((10 ^ unU c : Nat) : Int))
    unfold qD at e2
    omega
theorem uq_parts (u : Nat) : (uq u).num = ((10 ^ u : Nat) : Int) ∧ (uq u).den = 1 := ⟨Rat.num_intCast _, Rat.den_intCast _⟩
theorem fu_mulC {n : Int} (h : amB n = true) (c : List UInt8) : mulC (fuQ n c) (uq (unU c)) = 0 := by
  obtain ⟨a1, a2⟩ := fu_dg h c
  obtain ⟨b1, b2⟩ := ten_le c
  obtain ⟨u1, u2⟩ := uq_parts (unU c)
  have hl := lim_big
  unfold mulC
  rw [u1, u2, if_pos]
  rw [Bool.and_eq_true, LB_true, LB_true]
  refine ⟨?_, by omega⟩
  rw [Int.natAbs_mul]
  have h1 : (fuQ n c).num.natAbs * (((10 ^ unU c : Nat) : Int)).natAbs ≤ 1125899906842624 * 1000 := Nat.mul_le_mul a1 (by omega)
  omega
theorem back_tu {n : Int} {c : ByteArray} (hc : nameB c.data.toList = true) (hn : amB n = true) (m : Int) :
    tuE (rq (fuQ n c.data.toList)).data.toList c.data.toList m = (if m ≤ 4 then 0 else 2) ∧ tuV (rq (fuQ n c.data.toList)).data.toList c.data.toList m = (if m ≤ 4 then n else 0) := by
  by_cases h4 : m ≤ 4
  · rw [if_pos h4, if_pos h4]
    have h := tu_ok (r := (rq (fuQ n c.data.toList)).data.toList) (c := c.data.toList) (m := m) hc h4 (rq_chk (fu_sml hn _)) (by rw [qv_rq]; exact fu_mulC hn _)
    have e : tuN (rq (fuQ n c.data.toList)).data.toList c.data.toList m = n := by unfold tuN; rw [qv_rq, fu_mul, rnd_int]
    rw [e] at h
    unfold amE amV at h
    rw [if_pos hn, if_pos hn] at h
    exact h
  · rw [if_neg h4, if_neg h4]
    exact tu_name (.inr (by omega))
section
set_option maxRecDepth 100000
set_option maxHeartbeats 3200000
theorem back_walk (n m : Int) (c R : ByteArray) (er : Int) (k f : Int) (m0 : 0 ≤ m) (m255 : m ≤ 255) (w : World) (hv : VarM w) (h1 : ((er != 0) = true ∧ R = ⟨#[]⟩) ∨ er = 0) (h2 : er = 0 → (4 < m ∧ f = 2) ∨ (m ≤ 4 ∧ f = 0 ∧ k = n))
    (H1 : ∀ W, VarM W → Calls Tryz.prog 12 #[.int .i64 n, .string c] W (StE R er W))
    (H2 : er = 0 → ∀ W, VarM W → Calls Tryz.prog 11 #[.string R, .string c, .int .u8 m] W (UnR k f W)) :
    Calls Tryz.prog 7 #[.int .i64 n, .string c, .int .u8 m] w (BoM true w) := by
  have HV := Lib.hid hv
  have J0 := Lib.hid (alive7_any w hv)
  have J1 := Lib.hid H1
  clear hv H1
  rcases h1 with ⟨h1, rfl⟩ | rfl
  · clear H2 h2
    go_enter Tryz.func7, Tryz.ntmps7
    go_wp2_with (first
      | (go_at_call 17; ((with_reducible refine J0.out.mono ?_); rintro e w1 ⟨rfl, b⟩; have B1 := Lib.hid b; clear b))
      | (go_at_call 12; ((with_reducible refine (J1.out _ (HV.out.below B1.out)).mono ?_); rintro e w2 ⟨rfl, b⟩; have B2 := Lib.hid (btM B1.out b); clear b)))
    go_ret
    exact ⟨rfl, B2.out⟩
  · have J2 := Lib.hid (H2 rfl)
    clear H2
    rcases h2 rfl with ⟨h3, rfl⟩ | ⟨h3, rfl, rfl⟩
    · clear h2
      have q1 : (k == n) = (k == n) := rfl
      go_enter Tryz.func7, Tryz.ntmps7
      go_wp2_with (first
        | (go_at_call 17; ((with_reducible refine J0.out.mono ?_); rintro e w1 ⟨rfl, b⟩; have B1 := Lib.hid b; clear b))
        | (go_at_call 12; ((with_reducible refine (J1.out _ (HV.out.below B1.out)).mono ?_); rintro e w2 ⟨rfl, b⟩; have B2 := Lib.hid (btM B1.out b); clear b))
        | (go_at_call 11; ((with_reducible refine (J2.out _ (HV.out.below B2.out)).mono ?_); rintro e w3 ⟨rfl, b⟩; have B3 := Lib.hid (btM B2.out b); clear b)))
      go_ret
      exact ⟨rfl, B3.out⟩
    · clear h2
      have q1 : (k == k) = true := by simp
      go_enter Tryz.func7, Tryz.ntmps7
      go_wp2_with (first
        | (go_at_call 17; ((with_reducible refine J0.out.mono ?_); rintro e w1 ⟨rfl, b⟩; have B1 := Lib.hid b; clear b))
        | (go_at_call 12; ((with_reducible refine (J1.out _ (HV.out.below B1.out)).mono ?_); rintro e w2 ⟨rfl, b⟩; have B2 := Lib.hid (btM B1.out b); clear b))
        | (go_at_call 11; ((with_reducible refine (J2.out _ (HV.out.below B2.out)).mono ?_); rintro e w3 ⟨rfl, b⟩; have B3 := Lib.hid (btM B2.out b); clear b)))
      go_ret
      exact ⟨rfl, B3.out⟩
end
theorem back_law (n m : Int) (c : ByteArray) (m0 : 0 ≤ m) (m255 : m ≤ 255) (w : World) (hv : VarM w) :
    Calls Tryz.prog 7 #[.int .i64 n, .string c, .int .u8 m] w (BoM true w) := by
  cases h : nameB c.data.toList && amB n
  · refine back_walk n m c (fuT n c.data.toList) (fuE n c.data.toList) 0 0 m0 m255 w hv (.inl ⟨?_, ?_⟩) ?_ (fun W hW => pfromunits_any n c W hW) ?_
    · unfold fuE; rw [h]; rfl
    · unfold fuT; rw [h]; rfl
    · intro e; unfold fuE at e; rw [h] at e; cases e
    · intro e; unfold fuE at e; rw [h] at e; cases e
  · have h2 := h
    rw [Bool.and_eq_true] at h2
    obtain ⟨e1, e2⟩ := back_tu h2.1 h2.2 m
    have hT : fuT n c.data.toList = rq (fuQ n c.data.toList) := by unfold fuT; rw [h]; rfl
    have hE : fuE n c.data.toList = 0 := by unfold fuE; rw [h]; rfl
    refine back_walk n m c (fuT n c.data.toList) (fuE n c.data.toList) (if m ≤ 4 then n else 0) (if m ≤ 4 then 0 else 2) m0 m255 w hv (.inr hE) ?_ (fun W hW => pfromunits_any n c W hW) ?_
    · intro _
      by_cases h4 : m ≤ 4
      · rw [if_pos h4, if_pos h4]; exact .inr ⟨h4, rfl, rfl⟩
      · rw [if_neg h4, if_neg h4]; exact .inl ⟨by omega, rfl⟩
    · intro _ W hW
      rw [hT]
      have := ptounits_any (rq (fuQ n c.data.toList)) c (Nat.le_trans (rq_size (fu_sml h2.2 _)) (by decide)) m m0 m255 W hW
      rw [e1, e2] at this
      exact this
end Go.Proofs.YtalnfbgaiegicaaGreatDoor

/- The walks of layer 1: the program's DivMod. -/
import Derived.Test.YtlipjedofegciaaDoorIntE
namespace Go.Proofs.YtlipjedofegciaaDoor
open Go Go.RowKit

section
variable (s t : ByteArray) (hs : s.size ≤ maxLen) (ht : t.size ≤ maxLen) (w : World) (hv : VarT w)
include hs ht hv
set_option maxRecDepth 100000 in
set_option maxHeartbeats 1600000 in
theorem divmod_any : Calls Tryd.prog 17 #[.string s, .string t] w fun e w' => e = .returned (.tuple #[.string ⟨(dmS s.data.toList t.data.toList).1.toArray⟩, .string ⟨(dmS s.data.toList t.data.toList).2.1.toArray⟩, .int .i64 (dmS s.data.toList t.data.toList).2.2]) ∧ Below w.heap.size w w' := by
  have CS := Lib.hid (fun W => check_any s W hs)
  have CT := Lib.hid (fun W => check_any t W ht)
  have HAL := Lib.hid (fun o => (Below.refl _ w).alloc (Nat.le_refl _) o)
  have HV := Lib.hid hv
  clear hv
  by_cases hb : bothE s.data.toList t.data.toList = 0
  · obtain ⟨hx, hy⟩ := bothE_zero hb
    have HO := Lib.hid (or_new 0 0 w)
    rw [if_pos rfl] at HO
    by_cases h0 : num t.data.toList = 0
    · have e0 : (t.toList == [48]) = true := by rw [Lib.toList_data, itoa_zero_num _ hy, h0, itoa_zero]; rfl
      rw [dmS_zero hb h0]
      rw [hx] at CS
      rw [hy] at CT
      clear hx hy hb hs ht h0
      go_enter Tryd.func17, Tryd.ntmps17
      go_wp2_with (first
        | (go_at_call 12; (with_reducible refine (CS.out _).mono ?_); rintro e w1 ⟨rfl, rfl⟩)
        | (go_at_call 12; (with_reducible refine (CT.out _).mono ?_); rintro e w1 ⟨rfl, rfl⟩)
        | (go_at_call 45; refine (HO.out _).mono ?_; rintro e w1 ⟨rfl, rfl⟩))
      go_ret3
      exact ⟨rfl, HAL.out _⟩
    · have e0 : (t.toList == [48]) = false := by
        rw [Lib.toList_data, beq_eq_false_iff_ne]
        intro h
        rw [h] at h0
        exact h0 (by decide +kernel)
      have PS := Lib.hid (parse_r s hx)
      have PT := Lib.hid (parse_r t hy)
      rw [dmS_ok hb h0]
      rw [hx] at CS
      rw [hy] at CT
      have H0 := Lib.hid h0
      obtain ⟨z1, hz1⟩ : ∃ z, num s.data.toList / num t.data.toList = z := ⟨_, rfl⟩
      obtain ⟨z2, hz2⟩ : ∃ z, num s.data.toList % num t.data.toList = z := ⟨_, rfl⟩
      rw [hz1, hz2]
      have HZ1 := Lib.hid hz1
      have HZ2 := Lib.hid hz2
      clear hz1 hz2
      generalize s.data.toList = ls at PS HZ1 HZ2
      generalize t.data.toList = lt at PT H0 HZ1 HZ2
      clear hx hy hb hs ht h0
      go_enter Tryd.func17, Tryd.ntmps17
      go_wp2_with (first
        | (go_at_call 12; (with_reducible refine (CS.out _).mono ?_); rintro e w1 ⟨rfl, rfl⟩)
        | (go_at_call 12; (with_reducible refine (CT.out _).mono ?_); rintro e w1 ⟨rfl, rfl⟩)
        | (go_at_call 45; refine (HO.out _).mono ?_; rintro e w1 ⟨rfl, rfl⟩)
        | (go_at_call 48; (with_reducible refine (PS.out _).mono ?_); rintro e w1 ⟨m1, A1, c1, xs, rfl, S1, N1, V1, L1, L1', C1, B1⟩)
        | (go_at_call 48; (with_reducible refine (PT.out _).mono ?_); rintro e w2 ⟨m2, A2, c2, ys, rfl, S2, N2, V2, L2, L2', C2, B2⟩
           have HV1 := Lib.hid V1
           have HV2 := Lib.hid V2
           have HB2 := Lib.hid (bt (bt (HAL.out _) B1) B2)
           have S1' := S1.below B2
           clear V1 V2 B1 B2 S1))
      obtain ⟨k0, k1, k2, k3, hsz, hB0⟩ := two_new w2 (.bool m1) (.slice A1 xs.length c1) (.bool m2) (.slice A2 ys.length c2) 70
      generalize hw0 : (w2.alloc (.cells #[.bool m1, .slice A1 xs.length c1] 70)).alloc (.cells #[.bool m2, .slice A2 ys.length c2] 70) = w0 at *
      clear hw0
      have hne : ys ≠ [] := by
        rintro rfl
        exact H0.out (by rw [HV2.out]; exact sgn_zero _)
      refine (divide_any A1 A2 c1 c2 xs ys w0 (S1'.below hB0) (S2.below hB0) N1.lt N2.lt (by omega) (by omega) hne (N2.top hne)).mono ?_
      rintro e w5 ⟨A5, c5, qs, A6, c6, rs, rfl, r1, r2, r3, r4, r5, r6, r7, r8, r9⟩
      have j0 := (r9.cell (p := ⟨w2.heap.size, 0, none⟩) (by show w2.heap.size < _; omega)).trans k0
      have j2 := (r9.cell (p := ⟨w2.heap.size + 1, 0, none⟩) (by show w2.heap.size + 1 < _; omega)).trans k2
      have j3 := (r9.cell (p := ⟨w2.heap.size + 1, 1, none⟩) (by show w2.heap.size + 1 < _; omega)).trans k3
      have hpy := N2.pos hne
      have hrY : vl 1000000000 rs ≤ vl 1000000000 ys := by rw [r6]; exact Nat.le_of_lt (Nat.mod_lt _ hpy)
      have hsz5 : w2.heap.size + 2 ≤ w5.heap.size := by have := r9.size; omega
      have HB5 := Lib.hid (bt (bt HB2.out hB0) r9)
      have S2' := (S2.below hB0).below r9
      have hV5 := HV.out.below HB5.out
      have HN2 := Lib.hid N2
      have HR3 := Lib.hid r3
      have HR4 := Lib.hid r4
      have HR5 := Lib.hid r5
      have HR6 := Lib.hid r6
      have HPY := Lib.hid hpy
      have HRY := Lib.hid hrY
      clear CS CT HAL HO PS PT k0 k1 k2 k3 S1' S2 hne r9 r3 r4 r5 r6 N1 N2 hB0 hpy hrY HV H0 hsz
      by_cases hr : m1 = true ∧ 0 < rs.length
      · obtain ⟨rfl, hl⟩ := hr
        have hm : ¬ vl 1000000000 xs % vl 1000000000 ys = 0 := by
          rw [← HR6.out]
          have := HR4.out.pos (Nrm.ne_of_pos hl)
          omega
        obtain ⟨E1, E2⟩ := dm_neg m2 (vl 1000000000 xs) _ HPY.out hm
        have HE1 : Hid (sgn (!(true == m2)) (vl 1000000000 qs + 1) = z1) := by show _ = _; rw [← HZ1.out, HV1.out, HV2.out, HR5.out, E1]
        have HE2 : Hid (((vl 1000000000 ys - vl 1000000000 rs : Nat) : Int) = z2) := by show _ = _; rw [← HZ2.out, HV1.out, HV2.out, HR6.out, E2]
        clear E1 E2 hm HV1 HV2 HR5 HR6 HPY
        have HTO := Lib.hid (fun W (h : Below w5.heap.size w5 W) (hc : SlA encU W (some ⟨w5.heap.size, 0, none⟩) [1]) => total_any A5 (some ⟨w5.heap.size, 0, none⟩) c5 1 qs [1] W (r1.below h) hc HR3.out.lt (by simp) (by omega) (by simp))
        have HDI := Lib.hid (fun W (h : Below w5.heap.size w5 W) => difference_any A2 A6 c2 c6 ys rs W (S2'.below h) (r2.below h) HN2.out.lt HR4.out.lt (by omega) HRY.out)
        go_wp2_with fail
        go_region_held3 (fun w' => w'.cell? ⟨w2.heap.size, 0, none⟩ = some (.bool true) ∧ w'.cell? ⟨w2.heap.size + 1, 0, none⟩ = some (.bool m2) ∧ w'.cell? ⟨w2.heap.size + 1, 1, none⟩ = some (.slice A2 ys.length c2) ∧ w5.heap.size ≤ w'.heap.size ∧ Below w5.heap.size w5 w')
          (((try go_split_ands); (and_intros) <;> first
            | assumption | exact (Below.refl _ _).drew | exact ((Below.refl _ _).alloc (Nat.le_refl _) _).drew | exact Below.drew (by assumption) | (go_keep; done)))
          (first
            | (go_split_ands; go_at_call 52; refine (HTO.out _ (by assumption) (by exact SlA.heap (SlA.of_cells (heap_alloc_new w5 (.cells #[.int .u32 1] 77)) rfl) rfl)).mono ?_; rintro e w6 ⟨A7, c7, os, rfl, t1, t2, t3, t4, t5, t6, hb6⟩
               have HB6 : Below w5.heap.size w5 w6 := Below.trans (by assumption) (hb6.mono (by simp))
               have i0 : w6.cell? ⟨w2.heap.size, 0, none⟩ = some (.bool true) := (HB6.cell (p := ⟨w2.heap.size, 0, none⟩) (by show w2.heap.size < _; omega)).trans j0
               have i2 : w6.cell? ⟨w2.heap.size + 1, 0, none⟩ = some (.bool m2) := (HB6.cell (p := ⟨w2.heap.size + 1, 0, none⟩) (by show w2.heap.size + 1 < _; omega)).trans j2
               have i3 : w6.cell? ⟨w2.heap.size + 1, 1, none⟩ = some (.slice A2 ys.length c2) := (HB6.cell (p := ⟨w2.heap.size + 1, 1, none⟩) (by show w2.heap.size + 1 < _; omega)).trans j3
               have i4 : w5.heap.size ≤ w6.heap.size := HB6.size)
            | (go_split_ands; go_at_call 53; refine (HDI.out _ (by assumption)).mono ?_; rintro e w7 ⟨A8, c8, us, rfl, u1, u2, u3, u4, u5, u6, hb7⟩
               have HB7 : Below w5.heap.size w5 w7 := Below.trans (by assumption) (hb7.mono (by assumption))
               have HB67 : Below w6.heap.size w6 w7 := hb7
               have i0 : w7.cell? ⟨w2.heap.size, 0, none⟩ = some (.bool true) := (HB7.cell (p := ⟨w2.heap.size, 0, none⟩) (by show w2.heap.size < _; omega)).trans j0
               have i2 : w7.cell? ⟨w2.heap.size + 1, 0, none⟩ = some (.bool m2) := (HB7.cell (p := ⟨w2.heap.size + 1, 0, none⟩) (by show w2.heap.size + 1 < _; omega)).trans j2
               have i3 : w7.cell? ⟨w2.heap.size + 1, 1, none⟩ = some (.slice A2 ys.length c2) := (HB7.cell (p := ⟨w2.heap.size + 1, 1, none⟩) (by show w2.heap.size + 1 < _; omega)).trans j3
               have i4 : w5.heap.size ≤ w7.heap.size := HB7.size))
        have E1 : sgn (!(true == m2)) (vl 1000000000 os) = z1 := by rw [← HE1.out, t3]; simp [vl]
        have E2 : sgn false (vl 1000000000 us) = z2 := by rw [← HE2.out, u3]; rfl
        have hl1 : [1].length = 1 := rfl
        rw [hl1] at t4
        have HT1 := Lib.hid (fun W (h : Below w7.heap.size w7 W) => text_of (!(true == m2)) A7 c7 os W ((t1.below HB67).below h) t2 (by omega) ((hV5.below HB7).below h))
        have HT2 := Lib.hid (fun W (h : Below w7.heap.size w7 W) => text_of false A8 c8 us W (u1.below h) u2 (by omega) ((hV5.below HB7).below h))
        rw [E1] at HT1
        rw [E2] at HT2
        have HB57 := bt HB5.out HB7
        have i0 : w7.cell? ⟨w2.heap.size, 0, none⟩ = some (.bool true) := (HB7.cell (p := ⟨w2.heap.size, 0, none⟩) (by show w2.heap.size < _; omega)).trans j0
        clear E1 E2 HE1 HE2 HTO HDI t1 t2 t3 u1 u2 u3 hl1 hV5 S2' r1 r2 HR3 HR4 HN2 HRY j0 j2 j3 HZ1 HZ2 hl
        cases m2
        all_goals
          first
            | rw [show (!(true == false)) = true from rfl] at HT1
            | rw [show (!(true == true)) = false from rfl] at HT1
          go_wp2_with (first
            | (go_at_call 54; (with_reducible refine (HT1.out _ (Below.refl _ _)).mono ?_); rintro e w8 ⟨rfl, hb8⟩)
            | (go_at_call 54; (with_reducible refine (HT2.out _ hb8).mono ?_); rintro e w9 ⟨rfl, hb9⟩))
          go_ret3
          exact ⟨rfl, bt (bt HB57 hb8) hb9⟩
      · have hE : sgn (!(m1 == m2)) (vl 1000000000 qs) = z1 ∧ sgn false (vl 1000000000 rs) = z2 := by
          rw [← HZ1.out, ← HZ2.out, HV1.out, HV2.out, HR5.out, HR6.out]
          cases m1
          · obtain ⟨e1, e2⟩ := dm_pos m2 (vl 1000000000 xs) _ HPY.out
            exact ⟨e1.symm, e2.symm⟩
          · have h0 : rs = [] := by
              cases rs with
              | nil => rfl
              | cons a b => exact absurd ⟨rfl, by simp⟩ hr
            have hm : vl 1000000000 xs % vl 1000000000 ys = 0 := by rw [← HR6.out, h0]; rfl
            obtain ⟨e1, e2⟩ := dm_neg_zero m2 _ _ HPY.out hm
            exact ⟨e1.symm, by rw [e2, hm]; rfl⟩
        obtain ⟨E1, E2⟩ := hE
        have HT1 := Lib.hid (fun W (h : Below w5.heap.size w5 W) => text_of (!(m1 == m2)) A5 c5 qs W (r1.below h) HR3.out (by omega) (hV5.below h))
        have HT2 := Lib.hid (fun W (h : Below w5.heap.size w5 W) => text_of false A6 c6 rs W (r2.below h) HR4.out (by omega) (hV5.below h))
        rw [E1] at HT1
        rw [E2] at HT2
        clear E1 E2 HR3 HR4 HR5 HR6 HV1 HV2 S2' HN2 HPY HRY hV5 r1 r2
        have hr' : m1 = false ∨ m1 = true ∧ rs.length ≤ 0 := by cases m1 <;> simp at hr ⊢; exact hr
        clear hr
        rcases hr' with rfl | ⟨rfl, hl0⟩
        all_goals
          cases m2
          all_goals
            first
              | rw [show (!(false == false)) = false from rfl] at HT1
              | rw [show (!(false == true)) = true from rfl] at HT1
              | rw [show (!(true == false)) = true from rfl] at HT1
              | rw [show (!(true == true)) = false from rfl] at HT1
            go_wp2_with (first
              | (go_at_call 54; (with_reducible refine (HT1.out _ (Below.refl _ _)).mono ?_); rintro e w7 ⟨rfl, hb7⟩)
              | (go_at_call 54; (with_reducible refine (HT2.out _ hb7).mono ?_); rintro e w8 ⟨rfl, hb8⟩))
            go_ret3
            exact ⟨rfl, bt (bt HB5.out hb7) hb8⟩
  · rw [dmS_err hb]
    unfold bothE at hb ⊢
    obtain ⟨x, hx⟩ : ∃ x, chk s.data.toList = x := ⟨_, rfl⟩
    obtain ⟨y, hy⟩ : ∃ y, chk t.data.toList = y := ⟨_, rfl⟩
    rw [hx] at CS hb ⊢
    rw [hy] at CT hb ⊢
    have HO := Lib.hid (or_new x y w)
    generalize (if x = 0 then y else x) = z at *
    have h1 : (z == 0) = false := by rw [beq_eq_false_iff_ne]; exact hb
    clear hx hy hs ht hb
    go_enter Tryd.func17, Tryd.ntmps17
    go_wp2_with (first
      | (go_at_call 12; (with_reducible refine (CS.out _).mono ?_); rintro e w1 ⟨rfl, rfl⟩)
      | (go_at_call 12; (with_reducible refine (CT.out _).mono ?_); rintro e w1 ⟨rfl, rfl⟩)
      | (go_at_call 45; refine (HO.out _).mono ?_; rintro e w1 ⟨rfl, rfl⟩))
    go_ret3
    exact ⟨rfl, HAL.out _⟩
end
end Go.Proofs.YtlipjedofegciaaDoor

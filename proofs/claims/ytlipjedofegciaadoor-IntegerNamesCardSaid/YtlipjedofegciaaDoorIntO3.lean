/- The walks of layer 1: the program's Mul. -/
import Derived.Test.YtlipjedofegciaaDoorIntO2
namespace Go.Proofs.YtlipjedofegciaaDoor
open Go Go.RowKit

theorem two_new (w : World) (a b c d : Value) (t : TypeId) :
    ((w.alloc (.cells #[a, b] t (0, 0))).alloc (.cells #[c, d] t (0, 0))).cell? ⟨w.heap.size, 0, none⟩ = some a ∧ ((w.alloc (.cells #[a, b] t (0, 0))).alloc (.cells #[c, d] t (0, 0))).cell? ⟨w.heap.size, 1, none⟩ = some b ∧
    ((w.alloc (.cells #[a, b] t (0, 0))).alloc (.cells #[c, d] t (0, 0))).cell? ⟨w.heap.size + 1, 0, none⟩ = some c ∧ ((w.alloc (.cells #[a, b] t (0, 0))).alloc (.cells #[c, d] t (0, 0))).cell? ⟨w.heap.size + 1, 1, none⟩ = some d ∧
    w.heap.size + 2 ≤ ((w.alloc (.cells #[a, b] t (0, 0))).alloc (.cells #[c, d] t (0, 0))).heap.size ∧ Below w.heap.size w ((w.alloc (.cells #[a, b] t (0, 0))).alloc (.cells #[c, d] t (0, 0))) := by
  refine ⟨?_, ?_, ?_, ?_, by simp, ((Below.refl _ w).alloc (Nat.le_refl _) _).alloc (by simp) _⟩
  · rw [World.cell?_alloc_lt _ _ ⟨w.heap.size, 0, none⟩ (by simp), World.cell?_alloc_at _ _ _ _ rfl]; rfl
  · rw [World.cell?_alloc_lt _ _ ⟨w.heap.size, 1, none⟩ (by simp), World.cell?_alloc_at _ _ _ _ rfl]; rfl
  · rw [World.cell?_alloc_at _ _ _ _ (by simp)]; rfl
  · rw [World.cell?_alloc_at _ _ _ _ (by simp)]; rfl
theorem sgn_xor_mul (m1 m2 : Bool) (a b : Nat) : sgn (!(m1 == m2)) (a * b) = sgn m1 a * sgn m2 b := by
  cases m1 <;> cases m2 <;> simp [sgn, Int.neg_mul, Int.mul_neg]

section
variable (s t : ByteArray) (hs : s.size ≤ maxLen) (ht : t.size ≤ maxLen) (w : World) (hv : VarT w)
include hs ht hv
set_option maxRecDepth 100000 in
set_option maxHeartbeats 3200000 in
theorem mul_any : Calls Tryd.prog 16 #[.string s, .string t] w fun e w' => e = .returned (.tuple #[.string ⟨(opS (· * ·) s.data.toList t.data.toList).1.toArray⟩, .int .i64 (opS (· * ·) s.data.toList t.data.toList).2]) ∧ Below w.heap.size w w' := by
  have CS := Lib.hid (fun W => check_any s W hs)
  have CT := Lib.hid (fun W => check_any t W ht)
  have HAL := Lib.hid (fun o => (Below.refl _ w).alloc (Nat.le_refl _) o)
  have HV := Lib.hid hv
  clear hv
  by_cases hb : bothE s.data.toList t.data.toList = 0
  · obtain ⟨hx, hy⟩ := bothE_zero hb
    have PS := Lib.hid (parse_r s hx)
    have PT := Lib.hid (parse_r t hy)
    have HR : Hid (opS (· * ·) s.data.toList t.data.toList = limS (num s.data.toList * num t.data.toList)) := by show _ = _; unfold opS; rw [if_pos hb]
    rw [hx] at CS
    rw [hy] at CT
    obtain ⟨R, hR⟩ : ∃ R, opS (· * ·) s.data.toList t.data.toList = R := ⟨_, rfl⟩
    rw [hR] at HR ⊢
    generalize s.data.toList = ls at PS HR
    generalize t.data.toList = lt at PT HR
    clear hx hy hb hs ht hR
    have HO := Lib.hid (or_new 0 0 w)
    rw [if_pos rfl] at HO
    go_enter Tryd.func16, Tryd.ntmps16
    go_wp2_with (first
      | (go_at_call 12; (with_reducible refine (CS.out _).mono ?_); rintro e w1 ⟨rfl, rfl⟩)
      | (go_at_call 12; (with_reducible refine (CT.out _).mono ?_); rintro e w1 ⟨rfl, rfl⟩)
      | (go_at_call 45; refine (HO.out _).mono ?_; rintro e w1 ⟨rfl, rfl⟩)
      | (go_at_call 48; (with_reducible refine (PS.out _).mono ?_); rintro e w1 ⟨m1, A1, c1, xs, rfl, S1, N1, V1, L1, L1', C1, B1⟩)
      | (go_at_call 48; (with_reducible refine (PT.out _).mono ?_); rintro e w2 ⟨m2, A2, c2, ys, rfl, S2, N2, V2, L2, L2', C2, B2⟩
         have HM : Hid (∀ W, Below w2.heap.size w2 W → Calls Tryd.prog 50 #[.slice A1 xs.length c1, .slice A2 ys.length c2] W (MagR W (vl 1000000000 xs * vl 1000000000 ys) (xs.length + ys.length))) := fun W hW => product_any A1 A2 c1 c2 xs ys W ((S1.below B2).below hW) (S2.below hW) N1.lt N2.lt (by omega) (by omega)
         have HB2 := Lib.hid (bt (bt (HAL.out _) B1) B2)
         have HV1 := Lib.hid V1
         have HV2 := Lib.hid V2
         clear S1 S2 B1 B2 V1 V2 N1 N2))
    obtain ⟨k0, k1, k2, k3, hsz, hB0⟩ := two_new w2 (.bool m1) (.slice A1 xs.length c1) (.bool m2) (.slice A2 ys.length c2) 70
    generalize hw0 : (w2.alloc (.cells #[.bool m1, .slice A1 xs.length c1] 70)).alloc (.cells #[.bool m2, .slice A2 ys.length c2] 70) = w0 at *
    clear hw0
    obtain ⟨mm, hmm⟩ : ∃ mm, (!(m1 == m2)) = mm := ⟨_, rfl⟩
    have HMM := Lib.hid hmm
    go_region_held3 (fun w' => w'.cell? ⟨w2.heap.size, 0, none⟩ = some (.bool m1) ∧ w'.cell? ⟨w2.heap.size, 1, none⟩ = some (.slice A1 xs.length c1) ∧ w'.cell? ⟨w2.heap.size + 1, 0, none⟩ = some (.bool m2) ∧ w'.cell? ⟨w2.heap.size + 1, 1, none⟩ = some (.slice A2 ys.length c2) ∧ w2.heap.size + 2 ≤ w'.heap.size ∧ Below w2.heap.size w2 w')
      (((try go_split_ands); (and_intros) <;> first
        | assumption | exact Below.drew (by assumption) | (refine (B4.cell ?_).trans ?_; (dsimp only; omega); assumption) | (refine (B3.cell ?_).trans ?_; (show _ < _; simp; omega); assumption) | exact HB4 | exact HB3 | (have := B4.size; omega) | (have := B3.size; simp at *; omega) | (go_keep; done)))
      (first
        | (go_split_ands; go_at_call 50; refine (HM.out _ (by assumption)).mono ?_; rintro e w3 ⟨A3, c3, zs, rfl, S3, N3, V3, L3, L3', C3, B3⟩
           have HB3 : Below w2.heap.size w2 w3 := Below.trans (by assumption) (B3.mono (by simp; omega))
           have HL := Lib.hid (limited_any mm A3 c3 zs R (by rw [HR.out, V3, ← hmm, sgn_xor_mul, HV1.out, HV2.out]) w3 S3 N3 (by omega) (HV.out.below (bt HB2.out HB3))))
        | (go_split_ands; go_at_call 46; (try simp only [hmm]); refine HL.out.mono ?_; rintro e w4 ⟨rfl, B4⟩
           have HB4 : Below w2.heap.size w2 w4 := bt HB3 B4))
    go_wp2
    go_ret2
    exact ⟨rfl, bt HB2.out HB4⟩
  · rw [opS_err hb]
    unfold bothE at hb ⊢
    obtain ⟨x, hx⟩ : ∃ x, chk s.data.toList = x := ⟨_, rfl⟩
    obtain ⟨y, hy⟩ : ∃ y, chk t.data.toList = y := ⟨_, rfl⟩
    rw [hx] at CS hb ⊢
    rw [hy] at CT hb ⊢
    have HO := Lib.hid (or_new x y w)
    generalize (if x = 0 then y else x) = z at *
    have h1 : (z == 0) = false := by rw [beq_eq_false_iff_ne]; exact hb
    clear hx hy hs ht hb
    go_enter Tryd.func16, Tryd.ntmps16
    go_wp2_with (first
      | (go_at_call 12; (with_reducible refine (CS.out _).mono ?_); rintro e w1 ⟨rfl, rfl⟩)
      | (go_at_call 12; (with_reducible refine (CT.out _).mono ?_); rintro e w1 ⟨rfl, rfl⟩)
      | (go_at_call 45; refine (HO.out _).mono ?_; rintro e w1 ⟨rfl, rfl⟩))
    go_ret2
    exact ⟨rfl, HAL.out _⟩
end
end Go.Proofs.YtlipjedofegciaaDoor

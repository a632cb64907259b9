/- The walks of layer 1: the program's Add, Sub, Mul, Compare. -/
import Derived.Test.YtlipjedofegciaaDoorIntO
namespace Go.Proofs.YtlipjedofegciaaDoor
open Go Go.RowKit

theorem or_new (x y : Int) (w : World) (t : TypeId) :
    Calls Tryd.prog 45 #[.slice (some ⟨w.heap.size, 0, none⟩) 2 2] (w.alloc (.cells #[.int .i64 x, .int .i64 y] t)) fun e w' => e = .returned (.int .i64 (if x = 0 then y else x)) ∧ w.alloc (.cells #[.int .i64 x, .int .i64 y] t) = w' := by
  refine or_any _ x y _ ?_ ?_
  · rw [World.cell?_alloc_at _ _ _ _ rfl]; rfl
  · rw [World.cell?_alloc_at _ _ _ _ rfl]; rfl
/-- parse, as the operations take it. -/
def ParR (l : List UInt8) (w : World) (e : Ending) (w' : World) : Prop :=
  ∃ m A c zs, e = .returned (.agg #[.bool m, .slice A zs.length c]) ∧ SlA encU w' A zs ∧ Nrm zs ∧ num l = sgn m (vl 1000000000 zs) ∧ zs.length ≤ 112 ∧ zs.length ≤ c ∧ c ≤ maxLen ∧ Below w.heap.size w w'
theorem parse_r (s : ByteArray) (h : chk s.data.toList = 0) (w : World) : Calls Tryd.prog 48 #[.string s] w (ParR s.data.toList w) :=
  (parse_any s h w).mono fun _ _ ⟨A, c, zs, h1, h2, h3, h4, h5⟩ => ⟨_, A, c, zs, h1, h2, h3, h4, h5⟩

theorem sgn_flip (m : Bool) (v : Nat) : sgn (!m) v = -sgn m v := by cases m <;> simp [sgn]

theorem Nrm.pos {zs : List Nat} (h : Nrm zs) (h0 : zs ≠ []) : 0 < vl 1000000000 zs := by
  obtain ⟨ys, q, rfl⟩ : ∃ ys q, zs = ys ++ [q] := ⟨_, _, (List.dropLast_concat_getLast h0).symm⟩
  have hq := h.top h0
  rw [List.length_append, List.length_singleton, Nat.add_sub_cancel, List.getD_eq_getElem?_getD] at hq
  simp at hq
  rw [vl_snoc]
  have : 0 < 1000000000 ^ ys.length * q := Nat.mul_pos (Nat.pow_pos (by omega)) (by omega)
  omega
theorem sign_cmp {m : Bool} {zs : List Nat} {x y : Int} (hz : Nrm zs) (h : sgn m (vl 1000000000 zs) = x - y) : (if zs.length = 0 then (0 : Int) else if m then -1 else 1) = cmpZ x y := by
  unfold cmpZ
  by_cases h0 : zs = []
  · subst h0
    have : x = y := by cases m <;> simp [sgn, vl] at h <;> omega
    simp [this]
  · have hp := hz.pos h0
    rw [if_neg (by simpa using h0)]
    generalize vl 1000000000 zs = v at *
    cases m
    · simp [sgn] at h
      have h1 : ¬ x < y := by omega
      have h2 : y < x := by omega
      simp [h1, h2]
    · simp [sgn] at h
      have h1 : x < y := by omega
      simp [h1]
theorem cmpS_err {l m : List UInt8} (h : ¬ bothE l m = 0) : cmpS l m = (0, bothE l m) := by unfold cmpS; rw [if_neg h]

section
variable (s t : ByteArray) (hs : s.size ≤ maxLen) (ht : t.size ≤ maxLen) (w : World) (hv : VarT w)
include hs ht hv
set_option maxRecDepth 100000 in
set_option maxHeartbeats 1600000 in
theorem add_any : Calls Tryd.prog 14 #[.string s, .string t] w fun e w' => e = .returned (.tuple #[.string ⟨(opS (· + ·) s.data.toList t.data.toList).1.toArray⟩, .int .i64 (opS (· + ·) s.data.toList t.data.toList).2]) ∧ Below w.heap.size w w' := by
  have CS := Lib.hid (fun W => check_any s W hs)
  have CT := Lib.hid (fun W => check_any t W ht)
  have HAL := Lib.hid (fun o => (Below.refl _ w).alloc (Nat.le_refl _) o)
  have HV := Lib.hid hv
  clear hv
  by_cases hb : bothE s.data.toList t.data.toList = 0
  · obtain ⟨hx, hy⟩ := bothE_zero hb
    have PS := Lib.hid (parse_r s hx)
    have PT := Lib.hid (parse_r t hy)
    have HR : Hid (opS (· + ·) s.data.toList t.data.toList = limS (num s.data.toList + num t.data.toList)) := by show _ = _; unfold opS; rw [if_pos hb]
    rw [hx] at CS
    rw [hy] at CT
    obtain ⟨R, hR⟩ : ∃ R, opS (· + ·) s.data.toList t.data.toList = R := ⟨_, rfl⟩
    rw [hR] at HR ⊢
    generalize s.data.toList = ls at PS HR
    generalize t.data.toList = lt at PT HR
    clear hx hy hb hs ht hR
    have HO := Lib.hid (or_new 0 0 w)
    rw [if_pos rfl] at HO
    go_enter Tryd.func14, Tryd.ntmps14
    go_wp2_with (first
      | (go_at_call 12; (with_reducible refine (CS.out _).mono ?_); rintro e w1 ⟨rfl, rfl⟩)
      | (go_at_call 12; (with_reducible refine (CT.out _).mono ?_); rintro e w1 ⟨rfl, rfl⟩)
      | (go_at_call 45; refine (HO.out _).mono ?_; rintro e w1 ⟨rfl, rfl⟩)
      | (go_at_call 48; (with_reducible refine (PS.out _).mono ?_); rintro e w1 ⟨m1, A1, c1, xs, rfl, S1, N1, V1, L1, L1', C1, B1⟩)
      | (go_at_call 48; (with_reducible refine (PT.out _).mono ?_); rintro e w2 ⟨m2, A2, c2, ys, rfl, S2, N2, V2, L2, L2', C2, B2⟩
         have HS := Lib.hid (sum_any m1 m2 A1 A2 c1 c2 xs ys w2 (S1.below B2) S2 N1 N2 (by omega) (by omega))
         have HB2 := Lib.hid (bt (bt (HAL.out _) B1) B2)
         have HV1 := Lib.hid V1
         have HV2 := Lib.hid V2
         clear S1 S2 B1 B2 V1 V2 N1 N2)
      | (go_at_call 47; refine HS.out.mono ?_; rintro e w3 ⟨m3, V3, ⟨A3, c3, zs, rfl, S3, N3, V3', L3, L3', C3, B3⟩, hsum⟩
         have HL := Lib.hid (limited_any m3 A3 c3 zs R (by rw [HR.out, V3', hsum, HV1.out, HV2.out]) w3 S3 N3 (by omega) (HV.out.below (bt HB2.out B3)))
         have HB3 := Lib.hid (bt HB2.out B3)
         clear S3 N3 V3' hsum B3)
      | (go_at_call 46; refine HL.out.mono ?_; rintro e w4 ⟨rfl, B4⟩))
    go_ret2
    exact ⟨rfl, bt HB3.out B4⟩
  · rw [opS_err hb]
    unfold bothE at hb ⊢
    obtain ⟨x, hx⟩ : ∃ x, chk s.data.toList = x := ⟨_, rfl⟩
    obtain ⟨y, hy⟩ : ∃ y, chk t.data.toList = y := ⟨_, rfl⟩
    rw [hx] at CS hb ⊢
    rw [hy] at CT hb ⊢
    have HO := Lib.hid (or_new x y w)
    generalize (if x = 0 then y else x) = z at *
    have h1 : (z == 0) = false := by rw [beq_eq_false_iff_ne]; exact hb
    clear hx hy hs ht hb
    go_enter Tryd.func14, Tryd.ntmps14
    go_wp2_with (first
      | (go_at_call 12; (with_reducible refine (CS.out _).mono ?_); rintro e w1 ⟨rfl, rfl⟩)
      | (go_at_call 12; (with_reducible refine (CT.out _).mono ?_); rintro e w1 ⟨rfl, rfl⟩)
      | (go_at_call 45; refine (HO.out _).mono ?_; rintro e w1 ⟨rfl, rfl⟩))
    go_ret2
    exact ⟨rfl, HAL.out _⟩
set_option maxRecDepth 100000 in
set_option maxHeartbeats 1600000 in
theorem sub_any : Calls Tryd.prog 15 #[.string s, .string t] w fun e w' => e = .returned (.tuple #[.string ⟨(opS (· - ·) s.data.toList t.data.toList).1.toArray⟩, .int .i64 (opS (· - ·) s.data.toList t.data.toList).2]) ∧ Below w.heap.size w w' := by
  have CS := Lib.hid (fun W => check_any s W hs)
  have CT := Lib.hid (fun W => check_any t W ht)
  have HAL := Lib.hid (fun o => (Below.refl _ w).alloc (Nat.le_refl _) o)
  have HV := Lib.hid hv
  clear hv
  by_cases hb : bothE s.data.toList t.data.toList = 0
  · obtain ⟨hx, hy⟩ := bothE_zero hb
    have PS := Lib.hid (parse_r s hx)
    have PT := Lib.hid (parse_r t hy)
    have HR : Hid (opS (· - ·) s.data.toList t.data.toList = limS (num s.data.toList - num t.data.toList)) := by show _ = _; unfold opS; rw [if_pos hb]
    rw [hx] at CS
    rw [hy] at CT
    obtain ⟨R, hR⟩ : ∃ R, opS (· - ·) s.data.toList t.data.toList = R := ⟨_, rfl⟩
    rw [hR] at HR ⊢
    generalize s.data.toList = ls at PS HR
    generalize t.data.toList = lt at PT HR
    clear hx hy hb hs ht hR
    have HO := Lib.hid (or_new 0 0 w)
    rw [if_pos rfl] at HO
    go_enter Tryd.func15, Tryd.ntmps15
    go_wp2_with (first
      | (go_at_call 12; (with_reducible refine (CS.out _).mono ?_); rintro e w1 ⟨rfl, rfl⟩)
      | (go_at_call 12; (with_reducible refine (CT.out _).mono ?_); rintro e w1 ⟨rfl, rfl⟩)
      | (go_at_call 45; refine (HO.out _).mono ?_; rintro e w1 ⟨rfl, rfl⟩)
      | (go_at_call 48; (with_reducible refine (PS.out _).mono ?_); rintro e w1 ⟨m1, A1, c1, xs, rfl, S1, N1, V1, L1, L1', C1, B1⟩)
      | (go_at_call 48; (with_reducible refine (PT.out _).mono ?_); rintro e w2 ⟨m2, A2, c2, ys, rfl, S2, N2, V2, L2, L2', C2, B2⟩
         have HOP := Lib.hid (opposite_any m2 A2 ys.length c2 w2)
         have HS : Hid (∀ w', Below w2.heap.size w2 w' → Calls Tryd.prog 47 #[.agg #[.bool m1, .slice A1 xs.length c1], .agg #[.bool (!m2), .slice A2 ys.length c2]] w' fun e w'' => ∃ m V, NumR w' m V (max xs.length ys.length + 1) e w'' ∧ sgn m V = sgn m1 (vl 1000000000 xs) + sgn (!m2) (vl 1000000000 ys)) := fun w' hw' => sum_any m1 (!m2) A1 A2 c1 c2 xs ys w' ((S1.below B2).below hw') (S2.below hw') N1 N2 (by omega) (by omega)
         have HB2 := Lib.hid (bt (bt (HAL.out _) B1) B2)
         have HV1 := Lib.hid V1
         have HV2 := Lib.hid V2
         clear S1 S2 B1 B2 V1 V2 N1 N2)
      | (go_at_call 49; refine HOP.out.mono ?_; rintro e w2' ⟨rfl, B2'⟩
         have HS' := Lib.hid (HS.out _ B2')
         have HB2' := Lib.hid (bt HB2.out B2')
         clear B2')
      | (go_at_call 47; refine HS'.out.mono ?_; rintro e w3 ⟨m3, V3, ⟨A3, c3, zs, rfl, S3, N3, V3', L3, L3', C3, B3⟩, hsum⟩
         have HL := Lib.hid (limited_any m3 A3 c3 zs R (by rw [HR.out, V3', hsum, HV1.out, HV2.out, sgn_flip, Int.sub_eq_add_neg]) w3 S3 N3 (by omega) (HV.out.below (bt HB2'.out B3)))
         have HB3 := Lib.hid (bt HB2'.out B3)
         clear S3 N3 V3' hsum B3)
      | (go_at_call 46; refine HL.out.mono ?_; rintro e w4 ⟨rfl, B4⟩))
    go_ret2
    exact ⟨rfl, bt HB3.out B4⟩
  · rw [opS_err hb]
    unfold bothE at hb ⊢
    obtain ⟨x, hx⟩ : ∃ x, chk s.data.toList = x := ⟨_, rfl⟩
    obtain ⟨y, hy⟩ : ∃ y, chk t.data.toList = y := ⟨_, rfl⟩
    rw [hx] at CS hb ⊢
    rw [hy] at CT hb ⊢
    have HO := Lib.hid (or_new x y w)
    generalize (if x = 0 then y else x) = z at *
    have h1 : (z == 0) = false := by rw [beq_eq_false_iff_ne]; exact hb
    clear hx hy hs ht hb
    go_enter Tryd.func15, Tryd.ntmps15
    go_wp2_with (first
      | (go_at_call 12; (with_reducible refine (CS.out _).mono ?_); rintro e w1 ⟨rfl, rfl⟩)
      | (go_at_call 12; (with_reducible refine (CT.out _).mono ?_); rintro e w1 ⟨rfl, rfl⟩)
      | (go_at_call 45; refine (HO.out _).mono ?_; rintro e w1 ⟨rfl, rfl⟩))
    go_ret2
    exact ⟨rfl, HAL.out _⟩
set_option maxRecDepth 100000 in
set_option maxHeartbeats 1600000 in
theorem compare_any : Calls Tryd.prog 20 #[.string s, .string t] w fun e w' => e = .returned (.tuple #[.int .i64 (cmpS s.data.toList t.data.toList).1, .int .i64 (cmpS s.data.toList t.data.toList).2]) ∧ Below w.heap.size w w' := by
  have CS := Lib.hid (fun W => check_any s W hs)
  have CT := Lib.hid (fun W => check_any t W ht)
  have HAL := Lib.hid (fun o => (Below.refl _ w).alloc (Nat.le_refl _) o)
  have HV := Lib.hid hv
  clear hv
  by_cases hb : bothE s.data.toList t.data.toList = 0
  · obtain ⟨hx, hy⟩ := bothE_zero hb
    have PS := Lib.hid (parse_r s hx)
    have PT := Lib.hid (parse_r t hy)
    have HR : Hid (cmpS s.data.toList t.data.toList = (cmpZ (num s.data.toList) (num t.data.toList), 0)) := by show _ = _; unfold cmpS; rw [if_pos hb]
    rw [hx] at CS
    rw [hy] at CT
    rw [HR.out]
    clear HR
    generalize s.data.toList = ls at PS ⊢
    generalize t.data.toList = lt at PT ⊢
    clear hx hy hb hs ht
    have HO := Lib.hid (or_new 0 0 w)
    rw [if_pos rfl] at HO
    go_enter Tryd.func20, Tryd.ntmps20
    go_wp2_with (first
      | (go_at_call 12; (with_reducible refine (CS.out _).mono ?_); rintro e w1 ⟨rfl, rfl⟩)
      | (go_at_call 12; (with_reducible refine (CT.out _).mono ?_); rintro e w1 ⟨rfl, rfl⟩)
      | (go_at_call 45; refine (HO.out _).mono ?_; rintro e w1 ⟨rfl, rfl⟩)
      | (go_at_call 48; (with_reducible refine (PS.out _).mono ?_); rintro e w1 ⟨m1, A1, c1, xs, rfl, S1, N1, V1, L1, L1', C1, B1⟩)
      | (go_at_call 48; (with_reducible refine (PT.out _).mono ?_); rintro e w2 ⟨m2, A2, c2, ys, rfl, S2, N2, V2, L2, L2', C2, B2⟩
         have HOP := Lib.hid (opposite_any m2 A2 ys.length c2 w2)
         have HS : Hid (∀ w', Below w2.heap.size w2 w' → Calls Tryd.prog 47 #[.agg #[.bool m1, .slice A1 xs.length c1], .agg #[.bool (!m2), .slice A2 ys.length c2]] w' fun e w'' => ∃ m V, NumR w' m V (max xs.length ys.length + 1) e w'' ∧ sgn m V = sgn m1 (vl 1000000000 xs) + sgn (!m2) (vl 1000000000 ys)) := fun w' hw' => sum_any m1 (!m2) A1 A2 c1 c2 xs ys w' ((S1.below B2).below hw') (S2.below hw') N1 N2 (by omega) (by omega)
         have HB2 := Lib.hid (bt (bt (HAL.out _) B1) B2)
         have HV1 := Lib.hid V1
         have HV2 := Lib.hid V2
         clear S1 S2 B1 B2 V1 V2 N1 N2)
      | (go_at_call 49; refine HOP.out.mono ?_; rintro e w2' ⟨rfl, B2'⟩
         have HS' := Lib.hid (HS.out _ B2')
         have HB2' := Lib.hid (bt HB2.out B2')
         clear B2')
      | (go_at_call 47; refine HS'.out.mono ?_; rintro e w3 ⟨m3, V3, ⟨A3, c3, zs, rfl, S3, N3, V3', L3, L3', C3, B3⟩, hsum⟩
         have HQ := Lib.hid (sign_cmp N3 (x := num ls) (y := num lt) (by rw [V3', hsum, HV1.out, HV2.out, sgn_flip, Int.sub_eq_add_neg]))
         have HL := Lib.hid (sign_any m3 A3 zs.length c3 w3)
         rw [HQ.out] at HL
         have HB3 := Lib.hid (bt HB2'.out B3)
         clear S3 N3 V3' hsum B3)
      | (go_at_call 56; refine HL.out.mono ?_; rintro e w4 ⟨rfl, B4⟩))
    go_ret2
    exact ⟨rfl, bt HB3.out B4⟩
  · rw [cmpS_err hb]
    unfold bothE at hb ⊢
    obtain ⟨x, hx⟩ : ∃ x, chk s.data.toList = x := ⟨_, rfl⟩
    obtain ⟨y, hy⟩ : ∃ y, chk t.data.toList = y := ⟨_, rfl⟩
    rw [hx] at CS hb ⊢
    rw [hy] at CT hb ⊢
    have HO := Lib.hid (or_new x y w)
    generalize (if x = 0 then y else x) = z at *
    have h1 : (z == 0) = false := by rw [beq_eq_false_iff_ne]; exact hb
    clear hx hy hs ht hb
    go_enter Tryd.func20, Tryd.ntmps20
    go_wp2_with (first
      | (go_at_call 12; (with_reducible refine (CS.out _).mono ?_); rintro e w1 ⟨rfl, rfl⟩)
      | (go_at_call 12; (with_reducible refine (CT.out _).mono ?_); rintro e w1 ⟨rfl, rfl⟩)
      | (go_at_call 45; refine (HO.out _).mono ?_; rintro e w1 ⟨rfl, rfl⟩))
    go_ret2
    exact ⟨rfl, HAL.out _⟩
end
end Go.Proofs.YtlipjedofegciaaDoor

/- The walks of layer 1: the sum of two numbers, on. -/
import Derived.Test.YtlipjedofegciaaDoorIntS
namespace Go.Proofs.YtlipjedofegciaaDoor
open Go Go.RowKit

theorem NumR.mono {w : World} {m : Bool} {V N N' : Nat} (h : N ≤ N') {e : Ending} {w' : World} (x : NumR w m V N e w') : NumR w m V N' e w' := by
  obtain ⟨A, c, zs, h1, h2, h3, h4, h5, h6⟩ := x
  exact ⟨A, c, zs, h1, h2, h3, h4, Nat.le_trans h5 h, h6⟩
theorem sumc_any (op m1 m2 : Bool) (A B : Option Addr) (c1 c2 : Nat) (xs ys : List Nat) (N : Nat) (p : Nat) (w : World) (hp : w.cell? ⟨p, 0, none⟩ = some (.bool op))
    (hA : SlA encU w A xs) (hB : SlA encU w B ys) (ha : ∀ d ∈ xs, d < 1000000000) (hb : ∀ d ∈ ys, d < 1000000000) (hla : xs.length ≤ 1073741824) (hlb : ys.length ≤ 1073741824) (hle : vl 1000000000 ys ≤ vl 1000000000 xs) (hN : max xs.length ys.length + 1 ≤ N) :
    Calls Tryd.prog 77 #[.agg #[.bool m1, .slice A xs.length c1], .agg #[.bool m2, .slice B ys.length c2], .pointer (some ⟨p, 0, none⟩)] w (NumR w m1 (if op then vl 1000000000 xs - vl 1000000000 ys else vl 1000000000 xs + vl 1000000000 ys) N) := by
  cases op
  · exact (sumc_tot m1 m2 A B c1 c2 xs ys p w hp hA hB ha hb hla hlb).mono fun _ _ x => x.mono hN
  · exact (sumc_dif m1 m2 A B c1 c2 xs ys p w hp hA hB ha hb hla hle).mono fun _ _ x => x.mono (by omega)

theorem row2 {w : World} {r : Nat} {a b : Value} {t : TypeId} (h : w.heap[r]? = some (.cells #[a, b] t (0, 0))) : w.cell? ⟨r, 0, none⟩ = some a ∧ w.cell? ⟨r, 1, none⟩ = some b ∧ w.frozen? ⟨r, 0, none⟩ = false ∧ w.frozen? ⟨r, 1, none⟩ = false := by
  refine ⟨?_, ?_, ?_, ?_⟩ <;> simp [World.cell?, World.frozen?, h]
theorem rows4 (w : World) (o1 o2 : Obj) (a b v : Value) (t t' : TypeId) (n : Nat) :
    ((((((w.alloc o1).alloc o2).alloc (.cells #[a, b] t (0, 0))).alloc (.cells #[v] t' (0, 0))).drewN n).heap[w.heap.size + 1 + 1]? = some (.cells #[a, b] t (0, 0))) ∧
    ((((((w.alloc o1).alloc o2).alloc (.cells #[a, b] t (0, 0))).alloc (.cells #[v] t' (0, 0))).drewN n).cell? ⟨w.heap.size + 1 + 1 + 1, 0, none⟩ = some v) ∧
    Below w.heap.size w (((((w.alloc o1).alloc o2).alloc (.cells #[a, b] t (0, 0))).alloc (.cells #[v] t' (0, 0))).drewN n) ∧ w.heap.size + 1 + 1 < (((((w.alloc o1).alloc o2).alloc (.cells #[a, b] t (0, 0))).alloc (.cells #[v] t' (0, 0))).drewN n).heap.size := by
  have hal : Below w.heap.size w ((((w.alloc o1).alloc o2).alloc (.cells #[a, b] t (0, 0))).alloc (.cells #[v] t' (0, 0))) := ((((Below.refl _ w).alloc (Nat.le_refl _) o1).alloc (by simp) o2).alloc (by simp; omega) _).alloc (by simp; omega) _
  have e : (((((w.alloc o1).alloc o2).alloc (.cells #[a, b] t (0, 0))).alloc (.cells #[v] t' (0, 0))).drewN n).heap = ((((w.alloc o1).alloc o2).alloc (.cells #[a, b] t (0, 0))).alloc (.cells #[v] t' (0, 0))).heap := by simp
  refine ⟨?_, ?_, ?_, ?_⟩
  · rw [e, Below.heap_alloc _ _ _ (by simp)]
    have := heap_alloc_new ((w.alloc o1).alloc o2) (.cells #[a, b] t (0, 0))
    simpa using this
  · rw [World.cell?_drewN, World.cell?_alloc_at _ _ _ _ (by simp)]; rfl
  · exact ⟨hal.os, hal.tape, hal.output, by rw [e]; exact hal.size, fun k hk => by rw [e]; exact hal.block k hk⟩
  · rw [e]; simp

set_option maxRecDepth 100000 in
set_option maxHeartbeats 3200000 in
theorem sum_lt (m1 m2 : Bool) (A B : Option Addr) (c1 c2 : Nat) (xs ys : List Nat) (w : World)
    (hA : SlA encU w A xs) (hB : SlA encU w B ys) (na : Nrm xs) (nb : Nrm ys) (hla : xs.length ≤ 1048576) (hlb : ys.length ≤ 1048576) (hlt : vl 1000000000 xs < vl 1000000000 ys) :
    Calls Tryd.prog 47 #[.agg #[.bool m1, .slice A xs.length c1], .agg #[.bool m2, .slice B ys.length c2]] w (NumR w m2 (if !(m1 == m2) then vl 1000000000 ys - vl 1000000000 xs else vl 1000000000 ys + vl 1000000000 xs) (max xs.length ys.length + 1)) := by
  have hmf : ∀ fn first cap w, (Instr.makeFunc fn first cap).run Tryd.prog w = .ok (.func fn first cap) w := fun _ _ _ _ => rfl
  have hal : ∀ o1 o2 o3 o4, Below w.heap.size w ((((w.alloc o1).alloc o2).alloc o3).alloc o4) := fun o1 o2 o3 o4 => ((((Below.refl _ w).alloc (Nat.le_refl _) o1).alloc (by simp) o2).alloc (by simp; omega) o3).alloc (by simp; omega) o4
  have HC : Hid (∀ o1 o2 o3 o4, Calls Tryd.prog 78 #[.slice A xs.length c1, .slice B ys.length c2] ((((w.alloc o1).alloc o2).alloc o3).alloc o4) fun e w' => e = .returned (.int .i64 (-1)) ∧ ∃ n, w' = ((((w.alloc o1).alloc o2).alloc o3).alloc o4).drewN n) := fun o1 o2 o3 o4 => by
    have := mcompare_any A B c1 c2 xs ys _ (hA.below (hal o1 o2 o3 o4)) (hB.below (hal o1 o2 o3 o4)) na.lt nb.lt na.top nb.top (by omega)
    rwa [show cmpN (vl 1000000000 xs) (vl 1000000000 ys) = -1 from by unfold cmpN; rw [if_neg (by omega), if_pos hlt]] at this
  have HS := Lib.hid (fun op p W (hW : Below w.heap.size w W) hp => sumc_any op m2 m1 B A c2 c1 ys xs (max xs.length ys.length + 1) p W hp (hB.below hW) (hA.below hW) nb.lt na.lt (by omega) (by omega) (by omega) (by omega))
  have HR := Lib.hid (rows4 w)
  obtain ⟨V, hV⟩ : ∃ V, (if !(m1 == m2) then vl 1000000000 ys - vl 1000000000 xs else vl 1000000000 ys + vl 1000000000 xs) = V := ⟨_, rfl⟩
  rw [hV]
  have HV := Lib.hid hV
  clear hV hal hA hB na nb hlt hla hlb
  go_enter Tryd.func47, Tryd.ntmps47
  go_wp2_with (first
    | (go_at_call 78; refine (HC.out _ _ _ _).mono ?_; rintro e w2 ⟨rfl, n, rfl⟩)
    | (go_at_call 77
       obtain ⟨r1, r2, r3, r4⟩ := HR.out (.cells #[.bool m1, .slice A xs.length c1] 70) (.cells #[.bool m2, .slice B ys.length c2] 70) (.bool false) (.slice none 0 0) (.bool (!m1 == m2)) 70 4 n
       refine (HS.out _ _ _ r3 r2).mono ?_
       rintro e w3 ⟨A', c', zs, rfl, h1, h2, h3, h4, h5, h6, hb3⟩
       have krr := (hb3.block _ r4).trans r1
       obtain ⟨k1, k2, k3, k4⟩ := row2 krr
       have HBF := Lib.hid (r3.trans (hb3.mono r3.size))
       have HK := Lib.hid krr
       have H1 := Lib.hid h1
       have H2 := Lib.hid h2
       have H3 := Lib.hid (h3.trans HV.out)
       clear r1 r2 r3 r4 hb3 krr h1 h2 h3))
  have hst := (HBF.out.setCell (p := ⟨w.heap.size + 1 + 1, 0, none⟩) (by show w.heap.size ≤ w.heap.size + 1 + 1; omega) (.bool m2)).setCell (p := ⟨w.heap.size + 1 + 1, 1, none⟩) (by show w.heap.size ≤ w.heap.size + 1 + 1; omega) (.slice A' zs.length c')
  refine bodyPost_ret (v := .agg #[.bool m2, .slice A' zs.length c']) (results_cell_row rfl _ _ (w.heap.size + 1 + 1) 70 #[.bool m2, .slice A' zs.length c'] (0, 0) _ rfl (sc_row _ _ HK.out) Tryd.underlying70 (by kernel_rfl) (by kernel_rfl)) rfl ⟨A', c', zs, rfl, H1.out.sc HK.out _ _, H2.out, H3.out, h4, h5, h6, hst⟩
set_option maxRecDepth 100000 in
set_option maxHeartbeats 3200000 in
theorem sum_ge (m1 m2 : Bool) (A B : Option Addr) (c1 c2 : Nat) (xs ys : List Nat) (cv : Int) (hcv : cmpN (vl 1000000000 xs) (vl 1000000000 ys) = cv) (hc : cv = 0 ∨ cv = 1) (w : World)
    (hA : SlA encU w A xs) (hB : SlA encU w B ys) (na : Nrm xs) (nb : Nrm ys) (hla : xs.length ≤ 1048576) (hlb : ys.length ≤ 1048576) (hlt : vl 1000000000 ys ≤ vl 1000000000 xs) :
    Calls Tryd.prog 47 #[.agg #[.bool m1, .slice A xs.length c1], .agg #[.bool m2, .slice B ys.length c2]] w (NumR w m1 (if !(m1 == m2) then vl 1000000000 xs - vl 1000000000 ys else vl 1000000000 xs + vl 1000000000 ys) (max xs.length ys.length + 1)) := by
  have hmf : ∀ fn first cap w, (Instr.makeFunc fn first cap).run Tryd.prog w = .ok (.func fn first cap) w := fun _ _ _ _ => rfl
  have hal : ∀ o1 o2 o3 o4, Below w.heap.size w ((((w.alloc o1).alloc o2).alloc o3).alloc o4) := fun o1 o2 o3 o4 => ((((Below.refl _ w).alloc (Nat.le_refl _) o1).alloc (by simp) o2).alloc (by simp; omega) o3).alloc (by simp; omega) o4
  have HC : Hid (∀ o1 o2 o3 o4, Calls Tryd.prog 78 #[.slice A xs.length c1, .slice B ys.length c2] ((((w.alloc o1).alloc o2).alloc o3).alloc o4) fun e w' => e = .returned (.int .i64 cv) ∧ ∃ n, w' = ((((w.alloc o1).alloc o2).alloc o3).alloc o4).drewN n) := fun o1 o2 o3 o4 => by
    have := mcompare_any A B c1 c2 xs ys _ (hA.below (hal o1 o2 o3 o4)) (hB.below (hal o1 o2 o3 o4)) na.lt nb.lt na.top nb.top (by omega)
    rwa [hcv] at this
  have HS := Lib.hid (fun op p W (hW : Below w.heap.size w W) hp => sumc_any op m1 m2 A B c1 c2 xs ys (max xs.length ys.length + 1) p W hp (hA.below hW) (hB.below hW) na.lt nb.lt (by omega) (by omega) (by omega) (by omega))
  have HR := Lib.hid (rows4 w)
  obtain ⟨V, hV⟩ : ∃ V, (if !(m1 == m2) then vl 1000000000 xs - vl 1000000000 ys else vl 1000000000 xs + vl 1000000000 ys) = V := ⟨_, rfl⟩
  rw [hV]
  have HV := Lib.hid hV
  clear hcv hV hal hA hB na nb hlt hla hlb
  rcases hc with rfl | rfl
  · go_enter Tryd.func47, Tryd.ntmps47
    go_wp2_with (first
      | (go_at_call 78; refine (HC.out _ _ _ _).mono ?_; rintro e w2 ⟨rfl, n, rfl⟩)
      | (go_at_call 77
         obtain ⟨r1, r2, r3, r4⟩ := HR.out (.cells #[.bool m1, .slice A xs.length c1] 70) (.cells #[.bool m2, .slice B ys.length c2] 70) (.bool false) (.slice none 0 0) (.bool (!m1 == m2)) 70 4 n
         refine (HS.out _ _ _ r3 r2).mono ?_
         rintro e w3 ⟨A', c', zs, rfl, h1, h2, h3, h4, h5, h6, hb3⟩
         have krr := (hb3.block _ r4).trans r1
         obtain ⟨k1, k2, k3, k4⟩ := row2 krr
         have HBF := Lib.hid (r3.trans (hb3.mono r3.size))
         have HK := Lib.hid krr
         have H1 := Lib.hid h1
         have H2 := Lib.hid h2
         have H3 := Lib.hid (h3.trans HV.out)
         clear r1 r2 r3 r4 hb3 krr h1 h2 h3))
    have hst := (HBF.out.setCell (p := ⟨w.heap.size + 1 + 1, 0, none⟩) (by show w.heap.size ≤ w.heap.size + 1 + 1; omega) (.bool m1)).setCell (p := ⟨w.heap.size + 1 + 1, 1, none⟩) (by show w.heap.size ≤ w.heap.size + 1 + 1; omega) (.slice A' zs.length c')
    refine bodyPost_ret (v := .agg #[.bool m1, .slice A' zs.length c']) (results_cell_row rfl _ _ (w.heap.size + 1 + 1) 70 #[.bool m1, .slice A' zs.length c'] (0, 0) _ rfl (sc_row _ _ HK.out) Tryd.underlying70 (by kernel_rfl) (by kernel_rfl)) rfl ⟨A', c', zs, rfl, H1.out.sc HK.out _ _, H2.out, H3.out, h4, h5, h6, hst⟩
  · go_enter Tryd.func47, Tryd.ntmps47
    go_wp2_with (first
      | (go_at_call 78; refine (HC.out _ _ _ _).mono ?_; rintro e w2 ⟨rfl, n, rfl⟩)
      | (go_at_call 77
         obtain ⟨r1, r2, r3, r4⟩ := HR.out (.cells #[.bool m1, .slice A xs.length c1] 70) (.cells #[.bool m2, .slice B ys.length c2] 70) (.bool false) (.slice none 0 0) (.bool (!m1 == m2)) 70 4 n
         refine (HS.out _ _ _ r3 r2).mono ?_
         rintro e w3 ⟨A', c', zs, rfl, h1, h2, h3, h4, h5, h6, hb3⟩
         have krr := (hb3.block _ r4).trans r1
         obtain ⟨k1, k2, k3, k4⟩ := row2 krr
         have HBF := Lib.hid (r3.trans (hb3.mono r3.size))
         have HK := Lib.hid krr
         have H1 := Lib.hid h1
         have H2 := Lib.hid h2
         have H3 := Lib.hid (h3.trans HV.out)
         clear r1 r2 r3 r4 hb3 krr h1 h2 h3))
    have hst := (HBF.out.setCell (p := ⟨w.heap.size + 1 + 1, 0, none⟩) (by show w.heap.size ≤ w.heap.size + 1 + 1; omega) (.bool m1)).setCell (p := ⟨w.heap.size + 1 + 1, 1, none⟩) (by show w.heap.size ≤ w.heap.size + 1 + 1; omega) (.slice A' zs.length c')
    refine bodyPost_ret (v := .agg #[.bool m1, .slice A' zs.length c']) (results_cell_row rfl _ _ (w.heap.size + 1 + 1) 70 #[.bool m1, .slice A' zs.length c'] (0, 0) _ rfl (sc_row _ _ HK.out) Tryd.underlying70 (by kernel_rfl) (by kernel_rfl)) rfl ⟨A', c', zs, rfl, H1.out.sc HK.out _ _, H2.out, H3.out, h4, h5, h6, hst⟩

theorem sgn_lt (m1 m2 : Bool) (a b : Nat) (h : a < b) : sgn m2 (if !(m1 == m2) then b - a else b + a) = sgn m1 a + sgn m2 b := by
  cases m1 <;> cases m2 <;> simp [sgn] <;> omega
theorem sgn_ge (m1 m2 : Bool) (a b : Nat) (h : b ≤ a) : sgn m1 (if !(m1 == m2) then a - b else a + b) = sgn m1 a + sgn m2 b := by
  cases m1 <;> cases m2 <;> simp [sgn] <;> omega
/-- The sum of two numbers. -/
theorem sum_any (m1 m2 : Bool) (A B : Option Addr) (c1 c2 : Nat) (xs ys : List Nat) (w : World)
    (hA : SlA encU w A xs) (hB : SlA encU w B ys) (na : Nrm xs) (nb : Nrm ys) (hla : xs.length ≤ 1048576) (hlb : ys.length ≤ 1048576) :
    Calls Tryd.prog 47 #[.agg #[.bool m1, .slice A xs.length c1], .agg #[.bool m2, .slice B ys.length c2]] w fun e w' => ∃ m V, NumR w m V (max xs.length ys.length + 1) e w' ∧ sgn m V = sgn m1 (vl 1000000000 xs) + sgn m2 (vl 1000000000 ys) := by
  by_cases h : vl 1000000000 xs < vl 1000000000 ys
  · exact (sum_lt m1 m2 A B c1 c2 xs ys w hA hB na nb hla hlb h).mono fun _ _ x => ⟨_, _, x, sgn_lt m1 m2 _ _ h⟩
  · exact (sum_ge m1 m2 A B c1 c2 xs ys _ rfl (by unfold cmpN; split <;> simp) w hA hB na nb hla hlb (by omega)).mono fun _ _ x => ⟨_, _, x, sgn_ge m1 m2 _ _ (by omega)⟩
end Go.Proofs.YtlipjedofegciaaDoor

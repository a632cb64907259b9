/- The walks of layer 1: the sum of two numbers. -/
import Derived.Test.YtlipjedofegciaaDoorIntT
import Derived.Test.YtlipjedofegciaaDoorIntM3
import Derived.Test.YtlipjedofegciaaDoorIntM4
import Derived.Deep.RegionHeld3
namespace Go.Proofs.YtlipjedofegciaaDoor
open Go Go.RowKit

/-- What a function that makes a number leaves. -/
def NumR (w : World) (m : Bool) (V N : Nat) (e : Ending) (w' : World) : Prop :=
  ∃ A c zs, e = .returned (.agg #[.bool m, .slice A zs.length c]) ∧ SlA encU w' A zs ∧ Nrm zs ∧ vl 1000000000 zs = V ∧ zs.length ≤ N ∧ zs.length ≤ c ∧ c ≤ maxLen ∧ Below w.heap.size w w'

theorem sc_far {w : World} {r b o : Nat} (v1 v2 : Value) (h : b < r) : ((w.setCell ⟨r, 0, none⟩ v1).setCell ⟨r, 1, none⟩ v2).cell? ⟨b, o, none⟩ = w.cell? ⟨b, o, none⟩ := by
  rw [World.cell?_setCell_far _ _ _ _ (by show r ≠ b; omega), World.cell?_setCell_far _ _ _ _ (by show r ≠ b; omega)]
theorem sc_0 {w : World} {r : Nat} {u : Value} (v1 v2 : Value) (h : w.cell? ⟨r, 0, none⟩ = some u) : ((w.setCell ⟨r, 0, none⟩ v1).setCell ⟨r, 1, none⟩ v2).cell? ⟨r, 0, none⟩ = some v1 := by
  rw [World.cell?_setCell_other _ _ _ _ (by simp), World.cell?_setCell_same _ _ _ h]
theorem sc_1 {w : World} {r : Nat} {u : Value} (v1 v2 : Value) (h : w.cell? ⟨r, 1, none⟩ = some u) : ((w.setCell ⟨r, 0, none⟩ v1).setCell ⟨r, 1, none⟩ v2).cell? ⟨r, 1, none⟩ = some v2 := by
  rw [World.cell?_setCell_same _ _ _ (u := u) (by rw [World.cell?_setCell_other _ _ _ _ (by simp)]; exact h)]

theorem sc_row {w : World} {r : Nat} {a b : Value} {t : TypeId} (v1 v2 : Value) (h : w.heap[r]? = some (.cells #[a, b] t (0, 0))) : ((w.setCell ⟨r, 0, none⟩ v1).setCell ⟨r, 1, none⟩ v2).heap[r]? = some (.cells #[v1, v2] t (0, 0)) := by
  simp [World.setCell, Array.getElem?_modify, h]
theorem SlA.sc {w : World} {r : Nat} {m : Bool} {A B : Option Addr} {n c : Nat} {t : TypeId} {xs : List Nat} (hA : SlA encU w A xs) (h : w.heap[r]? = some (.cells #[.bool m, .slice B n c] t (0, 0))) (v1 v2 : Value) : SlA encU ((w.setCell ⟨r, 0, none⟩ v1).setCell ⟨r, 1, none⟩ v2) A xs := fun j x hx => by
  obtain ⟨b, o, h1, h2, h3⟩ := hA j x hx
  have hne : r ≠ b := by
    rintro rfl
    simp only [World.cell?, h] at h3
    generalize o + j = k at h3
    match k with
    | 0 => simp [encU] at h3
    | 1 => simp [encU] at h3
    | k + 2 => simp [encU] at h3
  refine ⟨b, o, h1, by simpa [World.setCell] using h2, ?_⟩
  rw [World.cell?_setCell_far _ _ _ _ (by show r ≠ b; omega), World.cell?_setCell_far _ _ _ _ (by show r ≠ b; omega)]
  exact h3

set_option maxRecDepth 100000 in
set_option maxHeartbeats 3200000 in
theorem sumc_dif (m1 m2 : Bool) (A B : Option Addr) (c1 c2 : Nat) (xs ys : List Nat) (p : Nat) (w : World) (hp : w.cell? ⟨p, 0, none⟩ = some (.bool true))
    (hA : SlA encU w A xs) (hB : SlA encU w B ys) (ha : ∀ d ∈ xs, d < 1000000000) (hb : ∀ d ∈ ys, d < 1000000000) (hla : xs.length ≤ 1073741824) (hle : vl 1000000000 ys ≤ vl 1000000000 xs) :
    Calls Tryd.prog 77 #[.agg #[.bool m1, .slice A xs.length c1], .agg #[.bool m2, .slice B ys.length c2], .pointer (some ⟨p, 0, none⟩)] w (NumR w m1 (vl 1000000000 xs - vl 1000000000 ys) xs.length) := by
  have hpb := World.block_lt_of_cell? w _ hp
  have hp3 : ∀ o1 o2 o3, (((w.alloc o1).alloc o2).alloc o3).cell? ⟨p, 0, none⟩ = some (.bool true) := fun o1 o2 o3 => by
    rw [World.cell?_alloc_lt _ _ ⟨p, 0, none⟩ (by simp at hpb ⊢; omega), World.cell?_alloc_lt _ _ ⟨p, 0, none⟩ (by simp at hpb ⊢; omega), World.cell?_alloc_lt _ _ ⟨p, 0, none⟩ hpb]; exact hp
  have HM := Lib.hid (fun W (hW : Below w.heap.size w W) => difference_any A B c1 c2 xs ys W (hA.below hW) (hB.below hW) ha hb hla hle)
  clear hA hB ha hb hla hle hpb hp
  go_enter Tryd.func77, Tryd.ntmps77
  go_wp2
  have hB0 : Below w.heap.size w (((w.alloc (.cells #[.bool m1, .slice A xs.length c1] 70)).alloc (.cells #[.bool m2, .slice B ys.length c2] 70)).alloc (.cells #[.bool false, .slice none 0 0] 70)) := (((Below.refl _ w).alloc (Nat.le_refl _) _).alloc (by simp) _).alloc (by simp; omega) _
  have hsz : w.heap.size + 3 ≤ (((w.alloc (.cells #[.bool m1, .slice A xs.length c1] 70)).alloc (.cells #[.bool m2, .slice B ys.length c2] 70)).alloc (.cells #[.bool false, .slice none 0 0] 70)).heap.size := by simp
  have k10 : (((w.alloc (.cells #[.bool m1, .slice A xs.length c1] 70)).alloc (.cells #[.bool m2, .slice B ys.length c2] 70)).alloc (.cells #[.bool false, .slice none 0 0] 70)).cell? ⟨w.heap.size, 0, none⟩ = some (.bool m1) := by
    rw [World.cell?_alloc_lt _ _ ⟨w.heap.size, 0, none⟩ (by simp; omega), World.cell?_alloc_lt _ _ ⟨w.heap.size, 0, none⟩ (by simp), World.cell?_alloc_at _ _ _ _ rfl]; rfl
  have k11 : (((w.alloc (.cells #[.bool m1, .slice A xs.length c1] 70)).alloc (.cells #[.bool m2, .slice B ys.length c2] 70)).alloc (.cells #[.bool false, .slice none 0 0] 70)).cell? ⟨w.heap.size, 1, none⟩ = some (.slice A xs.length c1) := by
    rw [World.cell?_alloc_lt _ _ ⟨w.heap.size, 1, none⟩ (by simp; omega), World.cell?_alloc_lt _ _ ⟨w.heap.size, 1, none⟩ (by simp), World.cell?_alloc_at _ _ _ _ rfl]; rfl
  have k21 : (((w.alloc (.cells #[.bool m1, .slice A xs.length c1] 70)).alloc (.cells #[.bool m2, .slice B ys.length c2] 70)).alloc (.cells #[.bool false, .slice none 0 0] 70)).cell? ⟨w.heap.size + 1, 1, none⟩ = some (.slice B ys.length c2) := by
    rw [World.cell?_alloc_lt _ _ ⟨w.heap.size + 1, 1, none⟩ (by simp), World.cell?_alloc_at _ _ _ _ (by simp)]; rfl
  have k30 : ((((w.alloc (.cells #[.bool m1, .slice A xs.length c1] 70)).alloc (.cells #[.bool m2, .slice B ys.length c2] 70)).alloc (.cells #[.bool false, .slice none 0 0] 70)).cell? ⟨w.heap.size + 1 + 1, 0, none⟩).isSome = true := by
    rw [World.cell?_alloc_at _ _ _ _ (by simp)]; rfl
  have k31 : ((((w.alloc (.cells #[.bool m1, .slice A xs.length c1] 70)).alloc (.cells #[.bool m2, .slice B ys.length c2] 70)).alloc (.cells #[.bool false, .slice none 0 0] 70)).cell? ⟨w.heap.size + 1 + 1, 1, none⟩).isSome = true := by
    rw [World.cell?_alloc_at _ _ _ _ (by simp)]; rfl
  have k50 : ((((w.alloc (.cells #[.bool m1, .slice A xs.length c1] 70)).alloc (.cells #[.bool m2, .slice B ys.length c2] 70)).alloc (.cells #[.bool false, .slice none 0 0] 70))).cell? ⟨w.heap.size + 1 + 1, 0, none⟩ = some (.bool false) := by
    rw [World.cell?_alloc_at _ _ _ _ (by simp)]; rfl
  have k51 : ((((w.alloc (.cells #[.bool m1, .slice A xs.length c1] 70)).alloc (.cells #[.bool m2, .slice B ys.length c2] 70)).alloc (.cells #[.bool false, .slice none 0 0] 70))).cell? ⟨w.heap.size + 1 + 1, 1, none⟩ = some (.slice none 0 0) := by
    rw [World.cell?_alloc_at _ _ _ _ (by simp)]; rfl
  have kr : ((((w.alloc (.cells #[.bool m1, .slice A xs.length c1] 70)).alloc (.cells #[.bool m2, .slice B ys.length c2] 70)).alloc (.cells #[.bool false, .slice none 0 0] 70))).heap[w.heap.size + 1 + 1]? = some (.cells #[.bool false, .slice none 0 0] 70 (0, 0)) := by
    have := heap_alloc_new ((w.alloc (.cells #[.bool m1, .slice A xs.length c1] 70)).alloc (.cells #[.bool m2, .slice B ys.length c2] 70)) (.cells #[.bool false, .slice none 0 0] 70)
    simpa using this
  have k40 : ((((w.alloc (.cells #[.bool m1, .slice A xs.length c1] 70)).alloc (.cells #[.bool m2, .slice B ys.length c2] 70)).alloc (.cells #[.bool false, .slice none 0 0] 70))).frozen? ⟨w.heap.size + 1 + 1, 0, none⟩ = false := World.frozen?_alloc_at _ _ _ _ (by simp)
  have k41 : ((((w.alloc (.cells #[.bool m1, .slice A xs.length c1] 70)).alloc (.cells #[.bool m2, .slice B ys.length c2] 70)).alloc (.cells #[.bool false, .slice none 0 0] 70))).frozen? ⟨w.heap.size + 1 + 1, 1, none⟩ = false := World.frozen?_alloc_at _ _ _ _ (by simp)
  clear hp3
  generalize hw0 : (((w.alloc (.cells #[.bool m1, .slice A xs.length c1] 70)).alloc (.cells #[.bool m2, .slice B ys.length c2] 70)).alloc (.cells #[.bool false, .slice none 0 0] 70)) = w0 at *
  clear hw0
  go_region_held3 (fun w' => w'.cell? ⟨w.heap.size, 0, none⟩ = some (.bool m1) ∧ w'.cell? ⟨w.heap.size, 1, none⟩ = some (.slice A xs.length c1) ∧ w'.cell? ⟨w.heap.size + 1, 1, none⟩ = some (.slice B ys.length c2) ∧
      (w'.cell? ⟨w.heap.size + 1 + 1, 0, none⟩).isSome = true ∧ (w'.cell? ⟨w.heap.size + 1 + 1, 1, none⟩).isSome = true ∧ w'.frozen? ⟨w.heap.size + 1 + 1, 0, none⟩ = false ∧ w'.frozen? ⟨w.heap.size + 1 + 1, 1, none⟩ = false ∧ w.heap.size + 3 ≤ w'.heap.size ∧ Below w.heap.size w w')
    (((try go_split_ands); (and_intros) <;> first
        | assumption | exact Below.drew (by assumption) | (refine (hb2.cell ?_).trans ?_; (show _ < _; simp; omega); assumption) | (rw [hb2.cell (by show _ < _; simp; omega)]; assumption) | (rw [hb2.frozen (by show _ < _; simp; omega)]; assumption) | (have := hb2.size; simp at *; omega) | exact HST _ _ | (rw [sc_far _ _ (by omega)]; assumption) | (rw [sc_0 _ _ k60]; rfl) | (rw [sc_1 _ _ k61]; rfl) | (go_keep; done)))
    (first
      | (go_split_ands; go_at_call 53; refine (HM.out _ (by assumption)).mono ?_; rintro e w2 ⟨A', c', zs, rfl, h1, h2, h3, h4, h5, h6, hb2⟩; have HTR : Below w.heap.size w w2 := Below.trans (by assumption) (hb2.mono (by simp; omega)); have krr : w2.heap[w.heap.size + 1 + 1]? = some (.cells #[.bool false, .slice none 0 0] 70 (0, 0)) := (hb2.block _ (by show _ < _; simp; omega)).trans kr; have HST : ∀ v1 v2, Below w.heap.size w ((w2.setCell ⟨w.heap.size + 1 + 1, 0, none⟩ v1).setCell ⟨w.heap.size + 1 + 1, 1, none⟩ v2) := fun v1 v2 => (HTR.setCell (by show w.heap.size ≤ w.heap.size + 1 + 1; omega) _).setCell (by show w.heap.size ≤ w.heap.size + 1 + 1; omega) _; have k60 : w2.cell? ⟨w.heap.size + 1 + 1, 0, none⟩ = some (.bool false) := (hb2.cell (by show _ < _; simp; omega)).trans (by simpa using k50); have k61 : w2.cell? ⟨w.heap.size + 1 + 1, 1, none⟩ = some (.slice none 0 0) := (hb2.cell (by show _ < _; simp; omega)).trans (by simpa using k51)))
  go_wp2
  have hst := HST (.bool m1) (.slice A' zs.length c')
  refine bodyPost_ret (v := .agg #[.bool m1, .slice A' zs.length c']) (results_cell_row rfl _ _ (w.heap.size + 1 + 1) 70 #[.bool m1, .slice A' zs.length c'] (0, 0) _ rfl (sc_row _ _ krr) Tryd.underlying70 (by kernel_rfl) (by kernel_rfl)) rfl ⟨A', c', zs, rfl, h1.sc krr _ _, h2, h3, h4, h5, h6, hst⟩
set_option maxRecDepth 100000 in
set_option maxHeartbeats 3200000 in
theorem sumc_tot (m1 m2 : Bool) (A B : Option Addr) (c1 c2 : Nat) (xs ys : List Nat) (p : Nat) (w : World) (hp : w.cell? ⟨p, 0, none⟩ = some (.bool false))
    (hA : SlA encU w A xs) (hB : SlA encU w B ys) (ha : ∀ d ∈ xs, d < 1000000000) (hb : ∀ d ∈ ys, d < 1000000000) (hla : xs.length ≤ 1073741824) (hlb : ys.length ≤ 1073741824) :
    Calls Tryd.prog 77 #[.agg #[.bool m1, .slice A xs.length c1], .agg #[.bool m2, .slice B ys.length c2], .pointer (some ⟨p, 0, none⟩)] w (NumR w m1 (vl 1000000000 xs + vl 1000000000 ys) (max xs.length ys.length + 1)) := by
  have hpb := World.block_lt_of_cell? w _ hp
  have hp3 : ∀ o1 o2 o3, (((w.alloc o1).alloc o2).alloc o3).cell? ⟨p, 0, none⟩ = some (.bool false) := fun o1 o2 o3 => by
    rw [World.cell?_alloc_lt _ _ ⟨p, 0, none⟩ (by simp at hpb ⊢; omega), World.cell?_alloc_lt _ _ ⟨p, 0, none⟩ (by simp at hpb ⊢; omega), World.cell?_alloc_lt _ _ ⟨p, 0, none⟩ hpb]; exact hp
  have HM := Lib.hid (fun W (hW : Below w.heap.size w W) => total_any A B c1 c2 xs ys W (hA.below hW) (hB.below hW) ha hb hla hlb)
  clear hA hB ha hb hla hlb hpb hp
  go_enter Tryd.func77, Tryd.ntmps77
  go_wp2
  have hB0 : Below w.heap.size w (((w.alloc (.cells #[.bool m1, .slice A xs.length c1] 70)).alloc (.cells #[.bool m2, .slice B ys.length c2] 70)).alloc (.cells #[.bool false, .slice none 0 0] 70)) := (((Below.refl _ w).alloc (Nat.le_refl _) _).alloc (by simp) _).alloc (by simp; omega) _
  have hsz : w.heap.size + 3 ≤ (((w.alloc (.cells #[.bool m1, .slice A xs.length c1] 70)).alloc (.cells #[.bool m2, .slice B ys.length c2] 70)).alloc (.cells #[.bool false, .slice none 0 0] 70)).heap.size := by simp
  have k10 : (((w.alloc (.cells #[.bool m1, .slice A xs.length c1] 70)).alloc (.cells #[.bool m2, .slice B ys.length c2] 70)).alloc (.cells #[.bool false, .slice none 0 0] 70)).cell? ⟨w.heap.size, 0, none⟩ = some (.bool m1) := by
    rw [World.cell?_alloc_lt _ _ ⟨w.heap.size, 0, none⟩ (by simp; omega), World.cell?_alloc_lt _ _ ⟨w.heap.size, 0, none⟩ (by simp), World.cell?_alloc_at _ _ _ _ rfl]; rfl
  have k11 : (((w.alloc (.cells #[.bool m1, .slice A xs.length c1] 70)).alloc (.cells #[.bool m2, .slice B ys.length c2] 70)).alloc (.cells #[.bool false, .slice none 0 0] 70)).cell? ⟨w.heap.size, 1, none⟩ = some (.slice A xs.length c1) := by
    rw [World.cell?_alloc_lt _ _ ⟨w.heap.size, 1, none⟩ (by simp; omega), World.cell?_alloc_lt _ _ ⟨w.heap.size, 1, none⟩ (by simp), World.cell?_alloc_at _ _ _ _ rfl]; rfl
  have k21 : (((w.alloc (.cells #[.bool m1, .slice A xs.length c1] 70)).alloc (.cells #[.bool m2, .slice B ys.length c2] 70)).alloc (.cells #[.bool false, .slice none 0 0] 70)).cell? ⟨w.heap.size + 1, 1, none⟩ = some (.slice B ys.length c2) := by
    rw [World.cell?_alloc_lt _ _ ⟨w.heap.size + 1, 1, none⟩ (by simp), World.cell?_alloc_at _ _ _ _ (by simp)]; rfl
  have k30 : ((((w.alloc (.cells #[.bool m1, .slice A xs.length c1] 70)).alloc (.cells #[.bool m2, .slice B ys.length c2] 70)).alloc (.cells #[.bool false, .slice none 0 0] 70)).cell? ⟨w.heap.size + 1 + 1, 0, none⟩).isSome = true := by
    rw [World.cell?_alloc_at _ _ _ _ (by simp)]; rfl
  have k31 : ((((w.alloc (.cells #[.bool m1, .slice A xs.length c1] 70)).alloc (.cells #[.bool m2, .slice B ys.length c2] 70)).alloc (.cells #[.bool false, .slice none 0 0] 70)).cell? ⟨w.heap.size + 1 + 1, 1, none⟩).isSome = true := by
    rw [World.cell?_alloc_at _ _ _ _ (by simp)]; rfl
  have k50 : ((((w.alloc (.cells #[.bool m1, .slice A xs.length c1] 70)).alloc (.cells #[.bool m2, .slice B ys.length c2] 70)).alloc (.cells #[.bool false, .slice none 0 0] 70))).cell? ⟨w.heap.size + 1 + 1, 0, none⟩ = some (.bool false) := by
    rw [World.cell?_alloc_at _ _ _ _ (by simp)]; rfl
  have k51 : ((((w.alloc (.cells #[.bool m1, .slice A xs.length c1] 70)).alloc (.cells #[.bool m2, .slice B ys.length c2] 70)).alloc (.cells #[.bool false, .slice none 0 0] 70))).cell? ⟨w.heap.size + 1 + 1, 1, none⟩ = some (.slice none 0 0) := by
    rw [World.cell?_alloc_at _ _ _ _ (by simp)]; rfl
  have kr : ((((w.alloc (.cells #[.bool m1, .slice A xs.length c1] 70)).alloc (.cells #[.bool m2, .slice B ys.length c2] 70)).alloc (.cells #[.bool false, .slice none 0 0] 70))).heap[w.heap.size + 1 + 1]? = some (.cells #[.bool false, .slice none 0 0] 70 (0, 0)) := by
    have := heap_alloc_new ((w.alloc (.cells #[.bool m1, .slice A xs.length c1] 70)).alloc (.cells #[.bool m2, .slice B ys.length c2] 70)) (.cells #[.bool false, .slice none 0 0] 70)
    simpa using this
  have k40 : ((((w.alloc (.cells #[.bool m1, .slice A xs.length c1] 70)).alloc (.cells #[.bool m2, .slice B ys.length c2] 70)).alloc (.cells #[.bool false, .slice none 0 0] 70))).frozen? ⟨w.heap.size + 1 + 1, 0, none⟩ = false := World.frozen?_alloc_at _ _ _ _ (by simp)
  have k41 : ((((w.alloc (.cells #[.bool m1, .slice A xs.length c1] 70)).alloc (.cells #[.bool m2, .slice B ys.length c2] 70)).alloc (.cells #[.bool false, .slice none 0 0] 70))).frozen? ⟨w.heap.size + 1 + 1, 1, none⟩ = false := World.frozen?_alloc_at _ _ _ _ (by simp)
  clear hp3
  generalize hw0 : (((w.alloc (.cells #[.bool m1, .slice A xs.length c1] 70)).alloc (.cells #[.bool m2, .slice B ys.length c2] 70)).alloc (.cells #[.bool false, .slice none 0 0] 70)) = w0 at *
  clear hw0
  go_region_held3 (fun w' => w'.cell? ⟨w.heap.size, 0, none⟩ = some (.bool m1) ∧ w'.cell? ⟨w.heap.size, 1, none⟩ = some (.slice A xs.length c1) ∧ w'.cell? ⟨w.heap.size + 1, 1, none⟩ = some (.slice B ys.length c2) ∧
      (w'.cell? ⟨w.heap.size + 1 + 1, 0, none⟩).isSome = true ∧ (w'.cell? ⟨w.heap.size + 1 + 1, 1, none⟩).isSome = true ∧ w'.frozen? ⟨w.heap.size + 1 + 1, 0, none⟩ = false ∧ w'.frozen? ⟨w.heap.size + 1 + 1, 1, none⟩ = false ∧ w.heap.size + 3 ≤ w'.heap.size ∧ Below w.heap.size w w')
    (((try go_split_ands); (and_intros) <;> first
        | assumption | exact Below.drew (by assumption) | (refine (hb2.cell ?_).trans ?_; (show _ < _; simp; omega); assumption) | (rw [hb2.cell (by show _ < _; simp; omega)]; assumption) | (rw [hb2.frozen (by show _ < _; simp; omega)]; assumption) | (have := hb2.size; simp at *; omega) | exact HST _ _ | (rw [sc_far _ _ (by omega)]; assumption) | (rw [sc_0 _ _ k60]; rfl) | (rw [sc_1 _ _ k61]; rfl) | (go_keep; done)))
    (first
      | (go_split_ands; go_at_call 52; refine (HM.out _ (by assumption)).mono ?_; rintro e w2 ⟨A', c', zs, rfl, h1, h2, h3, h4, h5, h6, hb2⟩; have HTR : Below w.heap.size w w2 := Below.trans (by assumption) (hb2.mono (by simp; omega)); have krr : w2.heap[w.heap.size + 1 + 1]? = some (.cells #[.bool false, .slice none 0 0] 70 (0, 0)) := (hb2.block _ (by show _ < _; simp; omega)).trans kr; have HST : ∀ v1 v2, Below w.heap.size w ((w2.setCell ⟨w.heap.size + 1 + 1, 0, none⟩ v1).setCell ⟨w.heap.size + 1 + 1, 1, none⟩ v2) := fun v1 v2 => (HTR.setCell (by show w.heap.size ≤ w.heap.size + 1 + 1; omega) _).setCell (by show w.heap.size ≤ w.heap.size + 1 + 1; omega) _; have k60 : w2.cell? ⟨w.heap.size + 1 + 1, 0, none⟩ = some (.bool false) := (hb2.cell (by show _ < _; simp; omega)).trans (by simpa using k50); have k61 : w2.cell? ⟨w.heap.size + 1 + 1, 1, none⟩ = some (.slice none 0 0) := (hb2.cell (by show _ < _; simp; omega)).trans (by simpa using k51)))
  go_wp2
  have hst := HST (.bool m1) (.slice A' zs.length c')
  refine bodyPost_ret (v := .agg #[.bool m1, .slice A' zs.length c']) (results_cell_row rfl _ _ (w.heap.size + 1 + 1) 70 #[.bool m1, .slice A' zs.length c'] (0, 0) _ rfl (sc_row _ _ krr) Tryd.underlying70 (by kernel_rfl) (by kernel_rfl)) rfl ⟨A', c', zs, rfl, h1.sc krr _ _, h2, h3, h4, h5, h6, hst⟩

end Go.Proofs.YtlipjedofegciaaDoor

/- Joined: IntS, IntS2, IntO, IntO2, IntO3. -/
import Derived.Test.YtbfimfjhdbpenaaGreatDoorPl8
import Derived.Test.YtbfimfjhdbpenaaGreatDoorPl7
import Derived.Deep.RegionHeld3
/- The walks of layer 1: the sum of two numbers. -/
namespace Go.Proofs.YtbfimfjhdbpenaaGreatDoor
open Go Go.RowKit
def NumR (w : World) (m : Bool) (V N : Nat) (e : Ending) (w' : World) : Prop :=
  ∃ A c zs, e = .returned (.agg #[.bool m, .slice A zs.length c]) ∧ SlA encU w' A zs ∧ Nrm zs ∧ vl 1000000000 zs = V ∧ zs.length ≤ N ∧ zs.length ≤ c ∧ c ≤ maxLen ∧ Below w.heap.size w w'
theorem sc_far {w : World} {r b o : Nat} (v1 v2 : Value) (h : b < r) : ((w.setCell ⟨r, 0, none⟩ v1).setCell ⟨r, 1, none⟩ v2).cell? ⟨b, o, none⟩ = w.cell? ⟨b, o, none⟩ := by
  rw [World.cell?_setCell_far _ _ _ _ (by show r ≠ b; omega), World.cell?_setCell_far _ _ _ _ (by show r ≠ b; omega)]
theorem sc_0 {w : World} {r : Nat} {u : Value} (v1 v2 : Value) (h : w.cell? ⟨r, 0, none⟩ = some u) : ((w.setCell ⟨r, 0, none⟩ v1).setCell ⟨r, 1, none⟩ v2).cell? ⟨r, 0, none⟩ = some v1 := by
  rw [World.cell?_setCell_other _ _ _ _ (by simp), World.cell?_setCell_same _ _ _ h]
theorem sc_1 {w : World} {r : Nat} {u : Value} (v1 v2 : Value) (h : w.cell? ⟨r, 1, none⟩ = some u) : ((w.setCell ⟨r, 0, none⟩ v1).setCell ⟨r, 1, none⟩ v2).cell? ⟨r, 1, none⟩ = some v2 := by
  rw [World.cell?_setCell_same _ _ _ (u := u) (by rw [World.cell?_setCell_other _ _ _ _ (by simp)]; exact h)]
theorem sc_row {w : World} {r : Nat} {a b : Value} {t : TypeId} (v1 v2 : Value) (h : w.heap[r]? = some (.cells #[a, b] t (0, 0))) : ((w.setCell ⟨r, 0, none⟩ v1).setCell ⟨r, 1, none⟩ v2).heap[r]? = some (.cells #[v1, v2] t (0, 0)) := by
  simp [World.setCell, Array.getElem?_modify, h]
theorem SlA.sc {w : World} {r : Nat} {m : Bool} {A B : Option Addr} {n c : Nat} {t : TypeId} {xs : List Nat} (hA : SlA encU w A xs) (h : w.heap[r]? = some (.cells #[.bool m, .slice B n c] t (0, 0))) (v1 v2 : Value) : SlA encU ((w.setCell ⟨r, 0, none⟩ v1).setCell ⟨r, 1, none⟩ v2) A xs := fun j x hx => by
  obtain ⟨b, o, h1, h2, h3⟩ := hA j x hx
  have hne : r ≠ b := by
    rintro rfl
    simp only [World.cell?, h] at h3
    generalize o + j = k at h3
    match k with
    | 0 => simp [encU] at h3
    | 1 => simp [encU] at h3
    | k + 2 => simp [encU] at h3
  refine ⟨b, o, h1, by simpa [World.setCell] using h2, ?_⟩
  rw [World.cell?_setCell_far _ _ _ _ (by show r ≠ b; omega), World.cell?_setCell_far _ _ _ _ (by show r ≠ b; omega)]
  exact h3
set_option maxRecDepth 100000 in
set_option maxHeartbeats 3200000 in
theorem sumc_dif (m1 m2 : Bool) (A B : Option Addr) (c1 c2 : Nat) (xs ys : List Nat) (p : Nat) (w : World) (hp : w.cell? ⟨p, 0, none⟩ = some (.bool true))
    (hA : SlA encU w A xs) (hB : SlA encU w B ys) (ha : ∀ d ∈ xs, d < 1000000000) (hb : ∀ d ∈ ys, d < 1000000000) (hla : xs.length ≤ 1073741824) (hle : vl 1000000000 ys ≤ vl 1000000000 xs) :
    Calls Tryz.prog 158 #[.agg #[.bool m1, .slice A xs.length c1], .agg #[.bool m2, .slice B ys.length c2], .pointer (some ⟨p, 0, none⟩)] w (NumR w m1 (vl 1000000000 xs - vl 1000000000 ys) xs.length) := by
  have hpb := World.block_lt_of_cell? w _ hp
  have hp3 : ∀ o1 o2 o3, (((w.alloc o1).alloc o2).alloc o3).cell? ⟨p, 0, none⟩ = some (.bool true) := fun o1 o2 o3 => by
    rw [World.cell?_alloc_lt _ _ ⟨p, 0, none⟩ (by simp at hpb ⊢; omega), World.cell?_alloc_lt _ _ ⟨p, 0, none⟩ (by simp at hpb ⊢; omega), World.cell?_alloc_lt _ _ ⟨p, 0, none⟩ hpb]; exact hp
  have HM := Lib.hid (fun W (hW : Below w.heap.size w W) => difference_any A B c1 c2 xs ys W (hA.below hW) (hB.below hW) ha hb hla hle)
  clear hA hB ha hb hla hle hpb hp
  go_enter Tryz.func158, Tryz.ntmps158
  go_wp2
  have hB0 : Below w.heap.size w (((w.alloc (.cells #[.bool m1, .slice A xs.length c1] 162)).alloc (.cells #[.bool m2, .slice B ys.length c2] 162)).alloc (.cells #[.bool false, .slice none 0 0] 162)) := (((Below.refl _ w).alloc (Nat.le_refl _) _).alloc (by simp) _).alloc (by simp; omega) _
  have hsz : w.heap.size + 3 ≤ (((w.alloc (.cells #[.bool m1, .slice A xs.length c1] 162)).alloc (.cells #[.bool m2, .slice B ys.length c2] 162)).alloc (.cells #[.bool false, .slice none 0 0] 162)).heap.size := by simp
  have k10 : (((w.alloc (.cells #[.bool m1, .slice A xs.length c1] 162)).alloc (.cells #[.bool m2, .slice B ys.length c2] 162)).alloc (.cells #[.bool false, .slice none 0 0] 162)).cell? ⟨w.heap.size, 0, none⟩ = some (.bool m1) := by
    rw [World.cell?_alloc_lt _ _ ⟨w.heap.size, 0, none⟩ (by simp; omega), World.cell?_alloc_lt _ _ ⟨w.heap.size, 0, none⟩ (by simp), World.cell?_alloc_at _ _ _ _ rfl]; rfl
  have k11 : (((w.alloc (.cells #[.bool m1, .slice A xs.length c1] 162)).alloc (.cells #[.bool m2, .slice B ys.length c2] 162)).alloc (.cells #[.bool false, .slice none 0 0] 162)).cell? ⟨w.heap.size, 1, none⟩ = some (.slice A xs.length c1) := by
    rw [World.cell?_alloc_lt _ _ ⟨w.heap.size, 1, none⟩ (by simp; omega), World.cell?_alloc_lt _ _ ⟨w.heap.size, 1, none⟩ (by simp), World.cell?_alloc_at _ _ _ _ rfl]; rfl
  have k21 : (((w.alloc (.cells #[.bool m1, .slice A xs.length c1] 162)).alloc (.cells #[.bool m2, .slice B ys.length c2] 162)).alloc (.cells #[.bool false, .slice none 0 0] 162)).cell? ⟨w.heap.size + 1, 1, none⟩ = some (.slice B ys.length c2) := by
    rw [World.cell?_alloc_lt _ _ ⟨w.heap.size + 1, 1, none⟩ (by simp), World.cell?_alloc_at _ _ _ _ (by simp)]; rfl
  have k30 : ((((w.alloc (.cells #[.bool m1, .slice A xs.length c1] 162)).alloc (.cells #[.bool m2, .slice B ys.length c2] 162)).alloc (.cells #[.bool false, .slice none 0 0] 162)).cell? ⟨w.heap.size + 1 + 1, 0, none⟩).isSome = true := by
    rw [World.cell?_alloc_at _ _ _ _ (by simp)]; rfl
  have k31 : ((((w.alloc (.cells #[.bool m1, .slice A xs.length c1] 162)).alloc (.cells #[.bool m2, .slice B ys.length c2] 162)).alloc (.cells #[.bool false, .slice none 0 0] 162)).cell? ⟨w.heap.size + 1 + 1, 1, none⟩).isSome = true := by
    rw [World.cell?_alloc_at _ _ _ _ (by simp)]; rfl
  have k50 : ((((w.alloc (.cells #[.bool m1, .slice A xs.length c1] 162)).alloc (.cells #[.bool m2, .slice B ys.length c2] 162)).alloc (.cells #[.bool false, .slice none 0 0] 162))).cell? ⟨w.heap.size + 1 + 1, 0, none⟩ = some (.bool false) := by
    rw [World.cell?_alloc_at _ _ _ _ (by simp)]; rfl
  have k51 : ((((w.alloc (.cells #[.bool m1, .slice A xs.length c1] 162)).alloc (.cells #[.bool m2, .slice B ys.length c2] 162)).alloc (.cells #[.bool false, .slice none 0 0] 162))).cell? ⟨w.heap.size + 1 + 1, 1, none⟩ = some (.slice none 0 0) := by
    rw [World.cell?_alloc_at _ _ _ _ (by simp)]; rfl
  have kr : ((((w.alloc (.cells #[.bool m1, .slice A xs.length c1] 162)).alloc (.cells #[.bool m2, .slice B ys.length c2] 162)).alloc (.cells #[.bool false, .slice none 0 0] 162))).heap[w.heap.size + 1 + 1]? = some (.cells #[.bool false, .slice none 0 0] 162 (0, 0)) := by
    have := heap_alloc_new ((w.alloc (.cells #[.bool m1, .slice A xs.length c1] 162)).alloc (.cells #[.bool m2, .slice B ys.length c2] 162)) (.cells #[.bool false, .slice none 0 0] 162)
    simpa using this
  have k40 : ((((w.alloc (.cells #[.bool m1, .slice A xs.length c1] 162)).alloc (.cells #[.bool m2, .slice B ys.length c2] 162)).alloc (.cells #[.bool false, .slice none 0 0] 162))).frozen? ⟨w.heap.size + 1 + 1, 0, none⟩ = false := World.frozen?_alloc_at _ _ _ _ (by simp)
  have k41 : ((((w.alloc (.cells #[.bool m1, .slice A xs.length c1] 162)).alloc (.cells #[.bool m2, .slice B ys.length c2] 162)).alloc (.cells #[.bool false, .slice none 0 0] 162))).frozen? ⟨w.heap.size + 1 + 1, 1, none⟩ = false := World.frozen?_alloc_at _ _ _ _ (by simp)
  clear hp3
  generalize hw0 : (((w.alloc (.cells #[.bool m1, .slice A xs.length c1] 162)).alloc (.cells #[.bool m2, .slice B ys.length c2] 162)).alloc (.cells #[.bool false, .slice none 0 0] 162)) = w0 at *
  clear hw0
  go_region_held3 (fun w' => w'.cell? ⟨w.heap.size, 0, none⟩ = some (.bool m1) ∧ w'.cell? ⟨w.heap.size, 1, none⟩ = some (.slice A xs.length c1) ∧ w'.cell? ⟨w.heap.size + 1, 1, none⟩ = some (.slice B ys.length c2) ∧
      (w'.cell? ⟨w.heap.size + 1 + 1, 0, none⟩).isSome = true ∧ (w'.cell? ⟨w.heap.size + 1 + 1, 1, none⟩).isSome = true ∧ w'.frozen? ⟨w.heap.size + 1 + 1, 0, none⟩ = false ∧ w'.frozen? ⟨w.heap.size + 1 + 1, 1, none⟩ = false ∧ w.heap.size + 3 ≤ w'.heap.size ∧ Below w.heap.size w w')
    (((try go_split_ands); (and_intros) <;> first
        | assumption | exact Below.drew (by assumption) | (refine (hb2.cell ?_).trans ?_; (show _ < _; simp; omega); assumption) | (rw [hb2.cell (by show _ < _; simp; omega)]; assumption) | (rw [hb2.frozen (by show _ < _; simp; omega)]; assumption) | (have := hb2.size; simp at *; omega) | exact HST _ _ | (rw [sc_far _ _ (by omega)]; assumption) | (rw [sc_0 _ _ k60]; rfl) | (rw [sc_1 _ _ k61]; rfl) | (go_keep; done)))
    (first
      | (go_split_ands; go_at_call 159; refine (HM.out _ (by assumption)).mono ?_; rintro e w2 ⟨A', c', zs, rfl, h1, h2, h3, h4, h5, h6, hb2⟩; have HTR : Below w.heap.size w w2 := Below.trans (by assumption) (hb2.mono (by simp; omega)); have krr : w2.heap[w.heap.size + 1 + 1]? = some (.cells #[.bool false, .slice none 0 0] 162 (0, 0)) := (hb2.block _ (by show _ < _; simp; omega)).trans kr; have HST : ∀ v1 v2, Below w.heap.size w ((w2.setCell ⟨w.heap.size + 1 + 1, 0, none⟩ v1).setCell ⟨w.heap.size + 1 + 1, 1, none⟩ v2) := fun v1 v2 => (HTR.setCell (by show w.heap.size ≤ w.heap.size + 1 + 1; omega) _).setCell (by show w.heap.size ≤ w.heap.size + 1 + 1; omega) _; have k60 : w2.cell? ⟨w.heap.size + 1 + 1, 0, none⟩ = some (.bool false) := (hb2.cell (by show _ < _; simp; omega)).trans (by simpa using k50); have k61 : w2.cell? ⟨w.heap.size + 1 + 1, 1, none⟩ = some (.slice none 0 0) := (hb2.cell (by show _ < _; simp; omega)).trans (by simpa using k51)))
  go_wp2
  have hst := HST (.bool m1) (.slice A' zs.length c')
  refine bodyPost_ret (v := .agg #[.bool m1, .slice A' zs.length c']) (results_cell_row rfl _ _ (w.heap.size + 1 + 1) 162 #[.bool m1, .slice A' zs.length c'] (0, 0) _ rfl (sc_row _ _ krr) Tryz.underlying162 (by kernel_rfl) (by kernel_rfl)) rfl ⟨A', c', zs, rfl, h1.sc krr _ _, h2, h3, h4, h5, h6, hst⟩
set_option maxRecDepth 100000 in
set_option maxHeartbeats 3200000 in
theorem sumc_tot (m1 m2 : Bool) (A B : Option Addr) (c1 c2 : Nat) (xs ys : List Nat) (p : Nat) (w : World) (hp : w.cell? ⟨p, 0, none⟩ = some (.bool false))
    (hA : SlA encU w A xs) (hB : SlA encU w B ys) (ha : ∀ d ∈ xs, d < 1000000000) (hb : ∀ d ∈ ys, d < 1000000000) (hla : xs.length ≤ 1073741824) (hlb : ys.length ≤ 1073741824) :
    Calls Tryz.prog 158 #[.agg #[.bool m1, .slice A xs.length c1], .agg #[.bool m2, .slice B ys.length c2], .pointer (some ⟨p, 0, none⟩)] w (NumR w m1 (vl 1000000000 xs + vl 1000000000 ys) (max xs.length ys.length + 1)) := by
  have hpb := World.block_lt_of_cell? w _ hp
  have hp3 : ∀ o1 o2 o3, (((w.alloc o1).alloc o2).alloc o3).cell? ⟨p, 0, none⟩ = some (.bool false) := fun o1 o2 o3 => by
    rw [World.cell?_alloc_lt _ _ ⟨p, 0, none⟩ (by simp at hpb ⊢; omega), World.cell?_alloc_lt _ _ ⟨p, 0, none⟩ (by simp at hpb ⊢; omega), World.cell?_alloc_lt _ _ ⟨p, 0, none⟩ hpb]; exact hp
  have HM := Lib.hid (fun W (hW : Below w.heap.size w W) => total_any A B c1 c2 xs ys W (hA.below hW) (hB.below hW) ha hb hla hlb)
  clear hA hB ha hb hla hlb hpb hp
  go_enter Tryz.func158, Tryz.ntmps158
  go_wp2
  have hB0 : Below w.heap.size w (((w.alloc (.cells #[.bool m1, .slice A xs.length c1] 162)).alloc (.cells #[.bool m2, .slice B ys.length c2] 162)).alloc (.cells #[.bool false, .slice none 0 0] 162)) := (((Below.refl _ w).alloc (Nat.le_refl _) _).alloc (by simp) _).alloc (by simp; omega) _
  have hsz : w.heap.size + 3 ≤ (((w.alloc (.cells #[.bool m1, .slice A xs.length c1] 162)).alloc (.cells #[.bool m2, .slice B ys.length c2] 162)).alloc (.cells #[.bool false, .slice none 0 0] 162)).heap.size := by simp
  have k10 : (((w.alloc (.cells #[.bool m1, .slice A xs.length c1] 162)).alloc (.cells #[.bool m2, .slice B ys.length c2] 162)).alloc (.cells #[.bool false, .slice none 0 0] 162)).cell? ⟨w.heap.size, 0, none⟩ = some (.bool m1) := by
    rw [World.cell?_alloc_lt _ _ ⟨w.heap.size, 0, none⟩ (by simp; omega), World.cell?_alloc_lt _ _ ⟨w.heap.size, 0, none⟩ (by simp), World.cell?_alloc_at _ _ _ _ rfl]; rfl
  have k11 : (((w.alloc (.cells #[.bool m1, .slice A xs.length c1] 162)).alloc (.cells #[.bool m2, .slice B ys.length c2] 162)).alloc (.cells #[.bool false, .slice none 0 0] 162)).cell? ⟨w.heap.size, 1, none⟩ = some (.slice A xs.length c1) := by
    rw [World.cell?_alloc_lt _ _ ⟨w.heap.size, 1, none⟩ (by simp; omega), World.cell?_alloc_lt _ _ ⟨w.heap.size, 1, none⟩ (by simp), World.cell?_alloc_at _ _ _ _ rfl]; rfl
  have k21 : (((w.alloc (.cells #[.bool m1, .slice A xs.length c1] 162)).alloc (.cells #[.bool m2, .slice B ys.length c2] 162)).alloc (.cells #[.bool false, .slice none 0 0] 162)).cell? ⟨w.heap.size + 1, 1, none⟩ = some (.slice B ys.length c2) := by
    rw [World.cell?_alloc_lt _ _ ⟨w.heap.size + 1, 1, none⟩ (by simp), World.cell?_alloc_at _ _ _ _ (by simp)]; rfl
  have k30 : ((((w.alloc (.cells #[.bool m1, .slice A xs.length c1] 162)).alloc (.cells #[.bool m2, .slice B ys.length c2] 162)).alloc (.cells #[.bool false, .slice none 0 0] 162)).cell? ⟨w.heap.size + 1 + 1, 0, none⟩).isSome = true := by
    rw [World.cell?_alloc_at _ _ _ _ (by simp)]; rfl
  have k31 : ((((w.alloc (.cells #[.bool m1, .slice A xs.length c1] 162)).alloc (.cells #[.bool m2, .slice B ys.length c2] 162)).alloc (.cells #[.bool false, .slice none 0 0] 162)).cell? ⟨w.heap.size + 1 + 1, 1, none⟩).isSome = true := by
    rw [World.cell?_alloc_at _ _ _ _ (by simp)]; rfl
  have k50 : ((((w.alloc (.cells #[.bool m1, .slice A xs.length c1] 162)).alloc (.cells #[.bool m2, .slice B ys.length c2] 162)).alloc (.cells #[.bool false, .slice none 0 0] 162))).cell? ⟨w.heap.size + 1 + 1, 0, none⟩ = some (.bool false) := by
    rw [World.cell?_alloc_at _ _ _ _ (by simp)]; rfl
  have k51 : ((((w.alloc (.cells #[.bool m1, .slice A xs.length c1] 162)).alloc (.cells #[.bool m2, .slice B ys.length c2] 162)).alloc (.cells #[.bool false, .slice none 0 0] 162))).cell? ⟨w.heap.size + 1 + 1, 1, none⟩ = some (.slice none 0 0) := by
    rw [World.cell?_alloc_at _ _ _ _ (by simp)]; rfl
  have kr : ((((w.alloc (.cells #[.bool m1, .slice A xs.length c1] 162)).alloc (.cells #[.bool m2, .slice B ys.length c2] 162)).alloc (.cells #[.bool false, .slice none 0 0] 162))).heap[w.heap.size + 1 + 1]? = some (.cells #[.bool false, .slice none 0 0] 162 (0, 0)) := by
    have := heap_alloc_new ((w.alloc (.cells #[.bool m1, .slice A xs.length c1] 162)).alloc (.cells #[.bool m2, .slice B ys.length c2] 162)) (.cells #[.bool false, .slice none 0 0] 162)
    simpa using this
  have k40 : ((((w.alloc (.cells #[.bool m1, .slice A xs.length c1] 162)).alloc (.cells #[.bool m2, .slice B ys.length c2] 162)).alloc (.cells #[.bool false, .slice none 0 0] 162))).frozen? ⟨w.heap.size + 1 + 1, 0, none⟩ = false := World.frozen?_alloc_at _ _ _ _ (by simp)
  have k41 : ((((w.alloc (.cells #[.bool m1, .slice A xs.length c1] 162)).alloc (.cells #[.bool m2, .slice B ys.length c2] 162)).alloc (.cells #[.bool false, .slice none 0 0] 162))).frozen? ⟨w.heap.size + 1 + 1, 1, none⟩ = false := World.frozen?_alloc_at _ _ _ _ (by simp)
  clear hp3
  generalize hw0 : (((w.alloc (.cells #[.bool m1, .slice A xs.length c1] 162)).alloc (.cells #[.bool m2, .slice B ys.length c2] 162)).alloc (.cells #[.bool false, .slice none 0 0] 162)) = w0 at *
  clear hw0
  go_region_held3 (fun w' => w'.cell? ⟨w.heap.size, 0, none⟩ = some (.bool m1) ∧ w'.cell? ⟨w.heap.size, 1, none⟩ = some (.slice A xs.length c1) ∧ w'.cell? ⟨w.heap.size + 1, 1, none⟩ = some (.slice B ys.length c2) ∧
      (w'.cell? ⟨w.heap.size + 1 + 1, 0, none⟩).isSome = true ∧ (w'.cell? ⟨w.heap.size + 1 + 1, 1, none⟩).isSome = true ∧ w'.frozen? ⟨w.heap.size + 1 + 1, 0, none⟩ = false ∧ w'.frozen? ⟨w.heap.size + 1 + 1, 1, none⟩ = false ∧ w.heap.size + 3 ≤ w'.heap.size ∧ Below w.heap.size w w')
    (((try go_split_ands); (and_intros) <;> first
        | assumption | exact Below.drew (by assumption) | (refine (hb2.cell ?_).trans ?_; (show _ < _; simp; omega); assumption) | (rw [hb2.cell (by show _ < _; simp; omega)]; assumption) | (rw [hb2.frozen (by show _ < _; simp; omega)]; assumption) | (have := hb2.size; simp at *; omega) | exact HST _ _ | (rw [sc_far _ _ (by omega)]; assumption) | (rw [sc_0 _ _ k60]; rfl) | (rw [sc_1 _ _ k61]; rfl) | (go_keep; done)))
    (first
      | (go_split_ands; go_at_call 160; refine (HM.out _ (by assumption)).mono ?_; rintro e w2 ⟨A', c', zs, rfl, h1, h2, h3, h4, h5, h6, hb2⟩; have HTR : Below w.heap.size w w2 := Below.trans (by assumption) (hb2.mono (by simp; omega)); have krr : w2.heap[w.heap.size + 1 + 1]? = some (.cells #[.bool false, .slice none 0 0] 162 (0, 0)) := (hb2.block _ (by show _ < _; simp; omega)).trans kr; have HST : ∀ v1 v2, Below w.heap.size w ((w2.setCell ⟨w.heap.size + 1 + 1, 0, none⟩ v1).setCell ⟨w.heap.size + 1 + 1, 1, none⟩ v2) := fun v1 v2 => (HTR.setCell (by show w.heap.size ≤ w.heap.size + 1 + 1; omega) _).setCell (by show w.heap.size ≤ w.heap.size + 1 + 1; omega) _; have k60 : w2.cell? ⟨w.heap.size + 1 + 1, 0, none⟩ = some (.bool false) := (hb2.cell (by show _ < _; simp; omega)).trans (by simpa using k50); have k61 : w2.cell? ⟨w.heap.size + 1 + 1, 1, none⟩ = some (.slice none 0 0) := (hb2.cell (by show _ < _; simp; omega)).trans (by simpa using k51)))
  go_wp2
  have hst := HST (.bool m1) (.slice A' zs.length c')
  refine bodyPost_ret (v := .agg #[.bool m1, .slice A' zs.length c']) (results_cell_row rfl _ _ (w.heap.size + 1 + 1) 162 #[.bool m1, .slice A' zs.length c'] (0, 0) _ rfl (sc_row _ _ krr) Tryz.underlying162 (by kernel_rfl) (by kernel_rfl)) rfl ⟨A', c', zs, rfl, h1.sc krr _ _, h2, h3, h4, h5, h6, hst⟩
end Go.Proofs.YtbfimfjhdbpenaaGreatDoor
/- The walks of layer 1: the sum of two numbers, on. -/
namespace Go.Proofs.YtbfimfjhdbpenaaGreatDoor
open Go Go.RowKit
theorem NumR.mono {w : World} {m : Bool} {V N N' : Nat} (h : N ≤ N') {e : Ending} {w' : World} (x : NumR w m V N e w') : NumR w m V N' e w' := by
  obtain ⟨A, c, zs, h1, h2, h3, h4, h5, h6⟩ := x
  exact ⟨A, c, zs, h1, h2, h3, h4, Nat.le_trans h5 h, h6⟩
theorem sumc_any (op m1 m2 : Bool) (A B : Option Addr) (c1 c2 : Nat) (xs ys : List Nat) (N : Nat) (p : Nat) (w : World) (hp : w.cell? ⟨p, 0, none⟩ = some (.bool op))
    (hA : SlA encU w A xs) (hB : SlA encU w B ys) (ha : ∀ d ∈ xs, d < 1000000000) (hb : ∀ d ∈ ys, d < 1000000000) (hla : xs.length ≤ 1073741824) (hlb : ys.length ≤ 1073741824) (hle : vl 1000000000 ys ≤ vl 1000000000 xs) (hN : max xs.length ys.length + 1 ≤ N) :
    Calls Tryz.prog 158 #[.agg #[.bool m1, .slice A xs.length c1], .agg #[.bool m2, .slice B ys.length c2], .pointer (some ⟨p, 0, none⟩)] w (NumR w m1 (if op then vl 1000000000 xs - vl 1000000000 ys else vl 1000000000 xs + vl 1000000000 ys) N) := by
  cases op
  · exact (sumc_tot m1 m2 A B c1 c2 xs ys p w hp hA hB ha hb hla hlb).mono fun _ _ x => x.mono hN
  · exact (sumc_dif m1 m2 A B c1 c2 xs ys p w hp hA hB ha hb hla hle).mono fun _ _ x => x.mono (by omega)
theorem row2 {w : World} {r : Nat} {a b : Value} {t : TypeId} (h : w.heap[r]? = some (.cells #[a, b] t (0, 0))) : w.cell? ⟨r, 0, none⟩ = some a ∧ w.cell? ⟨r, 1, none⟩ = some b ∧ w.frozen? ⟨r, 0, none⟩ = false ∧ w.frozen? ⟨r, 1, none⟩ = false := by
  refine ⟨?_, ?_, ?_, ?_⟩ <;> simp [World.cell?, World.frozen?, h]
theorem rows4 (w : World) (o1 o2 : Obj) (a b v : Value) (t t' : TypeId) (n : Nat) :
    ((((((w.alloc o1).alloc o2).alloc (.cells #[a, b] t (0, 0))).alloc (.cells #[v] t' (0, 0))).drewN n).heap[w.heap.size + 1 + 1]? = some (.cells #[a, b] t (0, 0))) ∧
    ((((((w.alloc o1).alloc o2).alloc (.cells #[a, b] t (0, 0))).alloc (.cells #[v] t' (0, 0))).drewN n).cell? ⟨w.heap.size + 1 + 1 + 1, 0, none⟩ = some v) ∧
    Below w.heap.size w (((((w.alloc o1).alloc o2).alloc (.cells #[a, b] t (0, 0))).alloc (.cells #[v] t' (0, 0))).drewN n) ∧ w.heap.size + 1 + 1 < (((((w.alloc o1).alloc o2).alloc (.cells #[a, b] t (0, 0))).alloc (.cells #[v] t' (0, 0))).drewN n).heap.size := by
  have hal : Below w.heap.size w ((((w.alloc o1).alloc o2).alloc (.cells #[a, b] t (0, 0))).alloc (.cells #[v] t' (0, 0))) := ((((Below.refl _ w).alloc (Nat.le_refl _) o1).alloc (by simp) o2).alloc (by simp; omega) _).alloc (by simp; omega) _
  have e : (((((w.alloc o1).alloc o2).alloc (.cells #[a, b] t (0, 0))).alloc (.cells #[v] t' (0, 0))).drewN n).heap = ((((w.alloc o1).alloc o2).alloc (.cells #[a, b] t (0, 0))).alloc (.cells #[v] t' (0, 0))).heap := by simp
  refine ⟨?_, ?_, ?_, ?_⟩
  · rw [e, Below.heap_alloc _ _ _ (by simp)]
    have := heap_alloc_new ((w.alloc o1).alloc o2) (.cells #[a, b] t (0, 0))
    simpa using this
  · rw [World.cell?_drewN, World.cell?_alloc_at _ _ _ _ (by simp)]; rfl
  · exact ⟨hal.os, hal.tape, hal.output, by rw [e]; exact hal.size, fun k hk => by rw [e]; exact hal.block k hk⟩
  · rw [e]; simp
set_option maxRecDepth 100000 in
set_option maxHeartbeats 3200000 in
theorem sum_lt (m1 m2 : Bool) (A B : Option Addr) (c1 c2 : Nat) (xs ys : List Nat) (w : World)
    (hA : SlA encU w A xs) (hB : SlA encU w B ys) (na : Nrm xs) (nb : Nrm ys) (hla : xs.length ≤ 1048576) (hlb : ys.length ≤ 1048576) (hlt : vl 1000000000 xs < vl 1000000000 ys) :
    Calls Tryz.prog 120 #[.agg #[.bool m1, .slice A xs.length c1], .agg #[.bool m2, .slice B ys.length c2]] w (NumR w m2 (if !(m1 == m2) then vl 1000000000 ys - vl 1000000000 xs else vl 1000000000 ys + vl 1000000000 xs) (max xs.length ys.length + 1)) := by
  have hmf : ∀ fn first cap w, (Instr.makeFunc fn first cap).run Tryz.prog w = .ok (.func fn first cap) w := fun _ _ _ _ => rfl
  have hal : ∀ o1 o2 o3 o4, Below w.heap.size w ((((w.alloc o1).alloc o2).alloc o3).alloc o4) := fun o1 o2 o3 o4 => ((((Below.refl _ w).alloc (Nat.le_refl _) o1).alloc (by simp) o2).alloc (by simp; omega) o3).alloc (by simp; omega) o4
  have HC : Hid (∀ o1 o2 o3 o4, Calls Tryz.prog 161 #[.slice A xs.length c1, .slice B ys.length c2] ((((w.alloc o1).alloc o2).alloc o3).alloc o4) fun e w' => e = .returned (.int .i64 (-1)) ∧ ∃ n, w' = ((((w.alloc o1).alloc o2).alloc o3).alloc o4).drewN n) := fun o1 o2 o3 o4 => by
    have := mcompare_any A B c1 c2 xs ys _ (hA.below (hal o1 o2 o3 o4)) (hB.below (hal o1 o2 o3 o4)) na.lt nb.lt na.top nb.top (by omega)
    rwa [show cmpN (vl 1000000000 xs) (vl 1000000000 ys) = -1 from by unfold cmpN; rw [if_neg (by omega), if_pos hlt]] at this
  have HS := Lib.hid (fun op p W (hW : Below w.heap.size w W) hp => sumc_any op m2 m1 B A c2 c1 ys xs (max xs.length ys.length + 1) p W hp (hB.below hW) (hA.below hW) nb.lt na.lt (by omega) (by omega) (by omega) (by omega))
  have HR := Lib.hid (rows4 w)
  obtain ⟨V, hV⟩ : ∃ V, (if !(m1 == m2) then vl 1000000000 ys - vl 1000000000 xs else vl 1000000000 ys + vl 1000000000 xs) = V := ⟨_, rfl⟩
  rw [hV]
  have HV := Lib.hid hV
  clear hV hal hA hB na nb hlt hla hlb
  go_enter Tryz.func120, Tryz.ntmps120
  go_wp2_with (first
    | (go_at_call 161; refine (HC.out _ _ _ _).mono ?_; rintro e w2 ⟨rfl, n, rfl⟩)
    | (go_at_call 158
       obtain ⟨r1, r2, r3, r4⟩ := HR.out (.cells #[.bool m1, .slice A xs.length c1] 162) (.cells #[.bool m2, .slice B ys.length c2] 162) (.bool false) (.slice none 0 0) (.bool (!m1 == m2)) 162 4 n
       refine (HS.out _ _ _ r3 r2).mono ?_
       rintro e w3 ⟨A', c', zs, rfl, h1, h2, h3, h4, h5, h6, hb3⟩
       have krr := (hb3.block _ r4).trans r1
       obtain ⟨k1, k2, k3, k4⟩ := row2 krr
       have HBF := Lib.hid (r3.trans (hb3.mono r3.size))
       have HK := Lib.hid krr
       have H1 := Lib.hid h1
       have H2 := Lib.hid h2
       have H3 := Lib.hid (h3.trans HV.out)
       clear r1 r2 r3 r4 hb3 krr h1 h2 h3))
  have hst := (HBF.out.setCell (p := ⟨w.heap.size + 1 + 1, 0, none⟩) (by show w.heap.size ≤ w.heap.size + 1 + 1; omega) (.bool m2)).setCell (p := ⟨w.heap.size + 1 + 1, 1, none⟩) (by show w.heap.size ≤ w.heap.size + 1 + 1; omega) (.slice A' zs.length c')
  refine bodyPost_ret (v := .agg #[.bool m2, .slice A' zs.length c']) (results_cell_row rfl _ _ (w.heap.size + 1 + 1) 162 #[.bool m2, .slice A' zs.length c'] (0, 0) _ rfl (sc_row _ _ HK.out) Tryz.underlying162 (by kernel_rfl) (by kernel_rfl)) rfl ⟨A', c', zs, rfl, H1.out.sc HK.out _ _, H2.out, H3.out, h4, h5, h6, hst⟩
set_option maxRecDepth 100000 in
set_option maxHeartbeats 3200000 in
theorem sum_ge (m1 m2 : Bool) (A B : Option Addr) (c1 c2 : Nat) (xs ys : List Nat) (cv : Int) (hcv : cmpN (vl 1000000000 xs) (vl 1000000000 ys) = cv) (hc : cv = 0 ∨ cv = 1) (w : World)
    (hA : SlA encU w A xs) (hB : SlA encU w B ys) (na : Nrm xs) (nb : Nrm ys) (hla : xs.length ≤ 1048576) (hlb : ys.length ≤ 1048576) (hlt : vl 1000000000 ys ≤ vl 1000000000 xs) :
    Calls Tryz.prog 120 #[.agg #[.bool m1, .slice A xs.length c1], .agg #[.bool m2, .slice B ys.length c2]] w (NumR w m1 (if !(m1 == m2) then vl 1000000000 xs - vl 1000000000 ys else vl 1000000000 xs + vl 1000000000 ys) (max xs.length ys.length + 1)) := by
  have hmf : ∀ fn first cap w, (Instr.makeFunc fn first cap).run Tryz.prog w = .ok (.func fn first cap) w := fun _ _ _ _ => rfl
  have hal : ∀ o1 o2 o3 o4, Below w.heap.size w ((((w.alloc o1).alloc o2).alloc o3).alloc o4) := fun o1 o2 o3 o4 => ((((Below.refl _ w).alloc (Nat.le_refl _) o1).alloc (by simp) o2).alloc (by simp; omega) o3).alloc (by simp; omega) o4
  have HC : Hid (∀ o1 o2 o3 o4, Calls Tryz.prog 161 #[.slice A xs.length c1, .slice B ys.length c2] ((((w.alloc o1).alloc o2).alloc o3).alloc o4) fun e w' => e = .returned (.int .i64 cv) ∧ ∃ n, w' = ((((w.alloc o1).alloc o2).alloc o3).alloc o4).drewN n) := fun o1 o2 o3 o4 => by
    have := mcompare_any A B c1 c2 xs ys _ (hA.below (hal o1 o2 o3 o4)) (hB.below (hal o1 o2 o3 o4)) na.lt nb.lt na.top nb.top (by omega)
    rwa [hcv] at this
  have HS := Lib.hid (fun op p W (hW : Below w.heap.size w W) hp => sumc_any op m1 m2 A B c1 c2 xs ys (max xs.length ys.length + 1) p W hp (hA.below hW) (hB.below hW) na.lt nb.lt (by omega) (by omega) (by omega) (by omega))
  have HR := Lib.hid (rows4 w)
  obtain ⟨V, hV⟩ : ∃ V, (if !(m1 == m2) then vl 1000000000 xs - vl 1000000000 ys else vl 1000000000 xs + vl 1000000000 ys) = V := ⟨_, rfl⟩
  rw [hV]
  have HV := Lib.hid hV
  clear hcv hV hal hA hB na nb hlt hla hlb
  rcases hc with rfl | rfl
  · go_enter Tryz.func120, Tryz.ntmps120
    go_wp2_with (first
      | (go_at_call 161; refine (HC.out _ _ _ _).mono ?_; rintro e w2 ⟨rfl, n, rfl⟩)
      | (go_at_call 158
         obtain ⟨r1, r2, r3, r4⟩ := HR.out (.cells #[.bool m1, .slice A xs.length c1] 162) (.cells #[.bool m2, .slice B ys.length c2] 162) (.bool false) (.slice none 0 0) (.bool (!m1 == m2)) 162 4 n
         refine (HS.out _ _ _ r3 r2).mono ?_
         rintro e w3 ⟨A', c', zs, rfl, h1, h2, h3, h4, h5, h6, hb3⟩
         have krr := (hb3.block _ r4).trans r1
         obtain ⟨k1, k2, k3, k4⟩ := row2 krr
         have HBF := Lib.hid (r3.trans (hb3.mono r3.size))
         have HK := Lib.hid krr
         have H1 := Lib.hid h1
         have H2 := Lib.hid h2
         have H3 := Lib.hid (h3.trans HV.out)
         clear r1 r2 r3 r4 hb3 krr h1 h2 h3))
    have hst := (HBF.out.setCell (p := ⟨w.heap.size + 1 + 1, 0, none⟩) (by show w.heap.size ≤ w.heap.size + 1 + 1; omega) (.bool m1)).setCell (p := ⟨w.heap.size + 1 + 1, 1, none⟩) (by show w.heap.size ≤ w.heap.size + 1 + 1; omega) (.slice A' zs.length c')
    refine bodyPost_ret (v := .agg #[.bool m1, .slice A' zs.length c']) (results_cell_row rfl _ _ (w.heap.size + 1 + 1) 162 #[.bool m1, .slice A' zs.length c'] (0, 0) _ rfl (sc_row _ _ HK.out) Tryz.underlying162 (by kernel_rfl) (by kernel_rfl)) rfl ⟨A', c', zs, rfl, H1.out.sc HK.out _ _, H2.out, H3.out, h4, h5, h6, hst⟩
  · go_enter Tryz.func120, Tryz.ntmps120
    go_wp2_with (first
      | (go_at_call 161; refine (HC.out _ _ _ _).mono ?_; rintro e w2 ⟨rfl, n, rfl⟩)
      | (go_at_call 158
         obtain ⟨r1, r2, r3, r4⟩ := HR.out (.cells #[.bool m1, .slice A xs.length c1] 162) (.cells #[.bool m2, .slice B ys.length c2] 162) (.bool false) (.slice none 0 0) (.bool (!m1 == m2)) 162 4 n
         refine (HS.out _ _ _ r3 r2).mono ?_
         rintro e w3 ⟨A', c', zs, rfl, h1, h2, h3, h4, h5, h6, hb3⟩
         have krr := (hb3.block _ r4).trans r1
         obtain ⟨k1, k2, k3, k4⟩ := row2 krr
         have HBF := Lib.hid (r3.trans (hb3.mono r3.size))
         have HK := Lib.hid krr
         have H1 := Lib.hid h1
         have H2 := Lib.hid h2
         have H3 := Lib.hid (h3.trans HV.out)
         clear r1 r2 r3 r4 hb3 krr h1 h2 h3))
    have hst := (HBF.out.setCell (p := ⟨w.heap.size + 1 + 1, 0, none⟩) (by show w.heap.size ≤ w.heap.size + 1 + 1; omega) (.bool m1)).setCell (p := ⟨w.heap.size + 1 + 1, 1, none⟩) (by show w.heap.size ≤ w.heap.size + 1 + 1; omega) (.slice A' zs.length c')
    refine bodyPost_ret (v := .agg #[.bool m1, .slice A' zs.length c']) (results_cell_row rfl _ _ (w.heap.size + 1 + 1) 162 #[.bool m1, .slice A' zs.length c'] (0, 0) _ rfl (sc_row _ _ HK.out) Tryz.underlying162 (by kernel_rfl) (by kernel_rfl)) rfl ⟨A', c', zs, rfl, H1.out.sc HK.out _ _, H2.out, H3.out, h4, h5, h6, hst⟩
theorem sgn_lt (m1 m2 : Bool) (a b : Nat) (h : a < b) : sgn m2 (if !(m1 == m2) then b - a else b + a) = sgn m1 a + sgn m2 b := by
  cases m1 <;> cases m2 <;> simp [sgn] <;> omega
theorem sgn_ge (m1 m2 : Bool) (a b : Nat) (h : b ≤ a) : sgn m1 (if !(m1 == m2) then a - b else a + b) = sgn m1 a + sgn m2 b := by
  cases m1 <;> cases m2 <;> simp [sgn] <;> omega
theorem sum_any (m1 m2 : Bool) (A B : Option Addr) (c1 c2 : Nat) (xs ys : List Nat) (w : World)
    (hA : SlA encU w A xs) (hB : SlA encU w B ys) (na : Nrm xs) (nb : Nrm ys) (hla : xs.length ≤ 1048576) (hlb : ys.length ≤ 1048576) :
    Calls Tryz.prog 120 #[.agg #[.bool m1, .slice A xs.length c1], .agg #[.bool m2, .slice B ys.length c2]] w fun e w' => ∃ m V, NumR w m V (max xs.length ys.length + 1) e w' ∧ sgn m V = sgn m1 (vl 1000000000 xs) + sgn m2 (vl 1000000000 ys) := by
  by_cases h : vl 1000000000 xs < vl 1000000000 ys
  · exact (sum_lt m1 m2 A B c1 c2 xs ys w hA hB na nb hla hlb h).mono fun _ _ x => ⟨_, _, x, sgn_lt m1 m2 _ _ h⟩
  · exact (sum_ge m1 m2 A B c1 c2 xs ys _ rfl (by unfold cmpN; split <;> simp) w hA hB na nb hla hlb (by omega)).mono fun _ _ x => ⟨_, _, x, sgn_ge m1 m2 _ _ (by omega)⟩
end Go.Proofs.YtbfimfjhdbpenaaGreatDoor
/- The walks of layer 1: the program's Add, Sub, Mul, Compare. -/
namespace Go.Proofs.YtbfimfjhdbpenaaGreatDoor
open Go Go.RowKit
theorem or_any (b : Nat) (x y : Int) (w : World) (h0 : w.cell? ⟨b, 0, none⟩ = some (.int .i64 x)) (h1 : w.cell? ⟨b, 1, none⟩ = some (.int .i64 y)) :
    Calls Tryz.prog 117 #[.slice (some ⟨b, 0, none⟩) 2 2] w fun e w' => e = .returned (.int .i64 (if x = 0 then y else x)) ∧ w = w' := by
  by_cases hx : x = 0
  · subst hx
    rw [if_pos rfl]
    by_cases hy : y = 0
    · subst hy
      go_enter Tryz.func117, Tryz.ntmps117
      go_wp2
      go_loop [8] (fun i => ∃ k : Nat, k ≤ 2 ∧ i = .int .i64 k) (fun i => 2 - (intOf i).toNat)
      case atStart => exact ⟨0, by omega, rfl⟩
      case round =>
        obtain ⟨k, hk, rfl⟩ := hrel
        match k, hk with
        | 0, _ => go_wp2; go_round; (case rel => exact ⟨1, by omega, rfl⟩); (case measure => simp [intOf])
        | 1, _ => go_wp2; go_round; (case rel => exact ⟨2, by omega, rfl⟩); (case measure => simp [intOf])
        | 2, _ => go_wp2; go_ret; exact ⟨rfl, rfl⟩
    · have h2 : (y == 0) = false := by rw [beq_eq_false_iff_ne]; exact hy
      clear hy
      go_enter Tryz.func117, Tryz.ntmps117
      go_wp2
      go_loop [8] (fun i => ∃ k : Nat, k ≤ 1 ∧ i = .int .i64 k) (fun i => 2 - (intOf i).toNat)
      case atStart => exact ⟨0, by omega, rfl⟩
      case round =>
        obtain ⟨k, hk, rfl⟩ := hrel
        match k, hk with
        | 0, _ => go_wp2; go_round; (case rel => exact ⟨1, by omega, rfl⟩); (case measure => simp [intOf])
        | 1, _ => go_wp2; go_ret; exact ⟨rfl, rfl⟩
  · rw [if_neg hx]
    have h2 : (x == 0) = false := by rw [beq_eq_false_iff_ne]; exact hx
    clear hx
    go_enter Tryz.func117, Tryz.ntmps117
    go_wp2
    go_loop [8] (fun i => i = .int .i64 0) (fun i => 2 - (intOf i).toNat)
    case atStart => rfl
    case round =>
      obtain rfl := hrel
      go_wp2
      go_ret
      exact ⟨rfl, rfl⟩
end Go.Proofs.YtbfimfjhdbpenaaGreatDoor
/- The walks of layer 1: the program's Add, Sub, Mul, Compare. -/
namespace Go.Proofs.YtbfimfjhdbpenaaGreatDoor
open Go Go.RowKit
theorem or_new (x y : Int) (w : World) (t : TypeId) :
    Calls Tryz.prog 117 #[.slice (some ⟨w.heap.size, 0, none⟩) 2 2] (w.alloc (.cells #[.int .i64 x, .int .i64 y] t)) fun e w' => e = .returned (.int .i64 (if x = 0 then y else x)) ∧ w.alloc (.cells #[.int .i64 x, .int .i64 y] t) = w' := by
  refine or_any _ x y _ ?_ ?_
  · rw [World.cell?_alloc_at _ _ _ _ rfl]; rfl
  · rw [World.cell?_alloc_at _ _ _ _ rfl]; rfl
def ParR (l : List UInt8) (w : World) (e : Ending) (w' : World) : Prop :=
  ∃ m A c zs, e = .returned (.agg #[.bool m, .slice A zs.length c]) ∧ SlA encU w' A zs ∧ Nrm zs ∧ num l = sgn m (vl 1000000000 zs) ∧ zs.length ≤ 112 ∧ zs.length ≤ c ∧ c ≤ maxLen ∧ Below w.heap.size w w'
theorem parse_r (s : ByteArray) (h : chk s.data.toList = 0) (w : World) : Calls Tryz.prog 121 #[.string s] w (ParR s.data.toList w) :=
  (parse_any s h w).mono fun _ _ ⟨A, c, zs, h1, h2, h3, h4, h5⟩ => ⟨_, A, c, zs, h1, h2, h3, h4, h5⟩
theorem sgn_flip (m : Bool) (v : Nat) : sgn (!m) v = -sgn m v := by cases m <;> simp [sgn]
theorem Nrm.pos {zs : List Nat} (h : Nrm zs) (h0 : zs ≠ []) : 0 < vl 1000000000 zs := by
  obtain ⟨ys, q, rfl⟩ : ∃ ys q, zs = ys ++ [q] := ⟨_, _, (List.dropLast_concat_getLast h0).symm⟩
  have hq := h.top h0
  rw [List.length_append, List.length_singleton, Nat.add_sub_cancel, List.getD_eq_getElem?_getD] at hq
  simp at hq
  rw [vl_snoc]
  have : 0 < 1000000000 ^ ys.length * q := Nat.mul_pos (Nat.pow_pos (by omega)) (by omega)
  omega
theorem sign_cmp {m : Bool} {zs : List Nat} {x y : Int} (hz : Nrm zs) (h : sgn m (vl 1000000000 zs) = x - y) : (if zs.length = 0 then (0 : Int) else if m then -1 else 1) = cmpZ x y := by
  unfold cmpZ
  by_cases h0 : zs = []
  · subst h0
    have : x = y := by cases m <;> simp [sgn, vl] at h <;> omega
    simp [this]
  · have hp := hz.pos h0
    rw [if_neg (by simpa using h0)]
    generalize vl 1000000000 zs = v at *
    cases m
    · simp [sgn] at h
      have h1 : ¬ x < y := by omega
      have h2 : y < x := by omega
      simp [h1, h2]
    · simp [sgn] at h
      have h1 : x < y := by omega
      simp [h1]
theorem cmpS_err {l m : List UInt8} (h : ¬ bothE l m = 0) : cmpS l m = (0, bothE l m) := by unfold cmpS; rw [if_neg h]
section
variable (s t : ByteArray) (hs : s.size ≤ maxLen) (ht : t.size ≤ maxLen) (w : World) (hv : VarT w)
include hs ht hv
set_option maxRecDepth 100000 in
set_option maxHeartbeats 1600000 in
theorem add_any : Calls Tryz.prog 125 #[.string s, .string t] w fun e w' => e = .returned (.tuple #[.string ⟨(opS (· + ·) s.data.toList t.data.toList).1.toArray⟩, .int .i64 (opS (· + ·) s.data.toList t.data.toList).2]) ∧ Below w.heap.size w w' := by
  have CS := Lib.hid (fun W => check_any s W hs)
  have CT := Lib.hid (fun W => check_any t W ht)
  have HAL := Lib.hid (fun o => (Below.refl _ w).alloc (Nat.le_refl _) o)
  have HV := Lib.hid hv
  clear hv
  by_cases hb : bothE s.data.toList t.data.toList = 0
  · obtain ⟨hx, hy⟩ := bothE_zero hb
    have PS := Lib.hid (parse_r s hx)
    have PT := Lib.hid (parse_r t hy)
    have HR : Hid (opS (· + ·) s.data.toList t.data.toList = limS (num s.data.toList + num t.data.toList)) := by show _ = _; unfold opS; rw [if_pos hb]
    rw [hx] at CS
    rw [hy] at CT
    obtain ⟨R, hR⟩ : ∃ R, opS (· + ·) s.data.toList t.data.toList = R := ⟨_, rfl⟩
    rw [hR] at HR ⊢
    generalize s.data.toList = ls at PS HR
    generalize t.data.toList = lt at PT HR
    clear hx hy hb hs ht hR
    have HO := Lib.hid (or_new 0 0 w)
    rw [if_pos rfl] at HO
    go_enter Tryz.func125, Tryz.ntmps125
    go_wp2_with (first
      | (go_at_call 118; (with_reducible refine (CS.out _).mono ?_); rintro e w1 ⟨rfl, rfl⟩)
      | (go_at_call 118; (with_reducible refine (CT.out _).mono ?_); rintro e w1 ⟨rfl, rfl⟩)
      | (go_at_call 117; refine (HO.out _).mono ?_; rintro e w1 ⟨rfl, rfl⟩)
      | (go_at_call 121; (with_reducible refine (PS.out _).mono ?_); rintro e w1 ⟨m1, A1, c1, xs, rfl, S1, N1, V1, L1, L1', C1, B1⟩)
      | (go_at_call 121; (with_reducible refine (PT.out _).mono ?_); rintro e w2 ⟨m2, A2, c2, ys, rfl, S2, N2, V2, L2, L2', C2, B2⟩
         have HS := Lib.hid (sum_any m1 m2 A1 A2 c1 c2 xs ys w2 (S1.below B2) S2 N1 N2 (by omega) (by omega))
         have HB2 := Lib.hid (bt (bt (HAL.out _) B1) B2)
         have HV1 := Lib.hid V1
         have HV2 := Lib.hid V2
         clear S1 S2 B1 B2 V1 V2 N1 N2)
      | (go_at_call 120; refine HS.out.mono ?_; rintro e w3 ⟨m3, V3, ⟨A3, c3, zs, rfl, S3, N3, V3', L3, L3', C3, B3⟩, hsum⟩
         have HL := Lib.hid (limited_any m3 A3 c3 zs R (by rw [HR.out, V3', hsum, HV1.out, HV2.out]) w3 S3 N3 (by omega) (HV.out.below (bt HB2.out B3)))
         have HB3 := Lib.hid (bt HB2.out B3)
         clear S3 N3 V3' hsum B3)
      | (go_at_call 153; refine HL.out.mono ?_; rintro e w4 ⟨rfl, B4⟩))
    go_ret2
    exact ⟨rfl, bt HB3.out B4⟩
  · rw [opS_err hb]
    unfold bothE at hb ⊢
    obtain ⟨x, hx⟩ : ∃ x, chk s.data.toList = x := ⟨_, rfl⟩
    obtain ⟨y, hy⟩ : ∃ y, chk t.data.toList = y := ⟨_, rfl⟩
    rw [hx] at CS hb ⊢
    rw [hy] at CT hb ⊢
    have HO := Lib.hid (or_new x y w)
    generalize (if x = 0 then y else x) = z at *
    have h1 : (z == 0) = false := by rw [beq_eq_false_iff_ne]; exact hb
    clear hx hy hs ht hb
    go_enter Tryz.func125, Tryz.ntmps125
    go_wp2_with (first
      | (go_at_call 118; (with_reducible refine (CS.out _).mono ?_); rintro e w1 ⟨rfl, rfl⟩)
      | (go_at_call 118; (with_reducible refine (CT.out _).mono ?_); rintro e w1 ⟨rfl, rfl⟩)
      | (go_at_call 117; refine (HO.out _).mono ?_; rintro e w1 ⟨rfl, rfl⟩))
    go_ret2
    exact ⟨rfl, HAL.out _⟩
set_option maxRecDepth 100000 in
set_option maxHeartbeats 1600000 in
theorem sub_any : Calls Tryz.prog 126 #[.string s, .string t] w fun e w' => e = .returned (.tuple #[.string ⟨(opS (· - ·) s.data.toList t.data.toList).1.toArray⟩, .int .i64 (opS (· - ·) s.data.toList t.data.toList).2]) ∧ Below w.heap.size w w' := by
  have CS := Lib.hid (fun W => check_any s W hs)
  have CT := Lib.hid (fun W => check_any t W ht)
  have HAL := Lib.hid (fun o => (Below.refl _ w).alloc (Nat.le_refl _) o)
  have HV := Lib.hid hv
  clear hv
  by_cases hb : bothE s.data.toList t.data.toList = 0
  · obtain ⟨hx, hy⟩ := bothE_zero hb
    have PS := Lib.hid (parse_r s hx)
    have PT := Lib.hid (parse_r t hy)
    have HR : Hid (opS (· - ·) s.data.toList t.data.toList = limS (num s.data.toList - num t.data.toList)) := by show _ = _; unfold opS; rw [if_pos hb]
    rw [hx] at CS
    rw [hy] at CT
    obtain ⟨R, hR⟩ : ∃ R, opS (· - ·) s.data.toList t.data.toList = R := ⟨_, rfl⟩
    rw [hR] at HR ⊢
    generalize s.data.toList = ls at PS HR
    generalize t.data.toList = lt at PT HR
    clear hx hy hb hs ht hR
    have HO := Lib.hid (or_new 0 0 w)
    rw [if_pos rfl] at HO
    go_enter Tryz.func126, Tryz.ntmps126
    go_wp2_with (first
      | (go_at_call 118; (with_reducible refine (CS.out _).mono ?_); rintro e w1 ⟨rfl, rfl⟩)
      | (go_at_call 118; (with_reducible refine (CT.out _).mono ?_); rintro e w1 ⟨rfl, rfl⟩)
      | (go_at_call 117; refine (HO.out _).mono ?_; rintro e w1 ⟨rfl, rfl⟩)
      | (go_at_call 121; (with_reducible refine (PS.out _).mono ?_); rintro e w1 ⟨m1, A1, c1, xs, rfl, S1, N1, V1, L1, L1', C1, B1⟩)
      | (go_at_call 121; (with_reducible refine (PT.out _).mono ?_); rintro e w2 ⟨m2, A2, c2, ys, rfl, S2, N2, V2, L2, L2', C2, B2⟩
         have HOP := Lib.hid (opposite_any m2 A2 ys.length c2 w2)
         have HS : Hid (∀ w', Below w2.heap.size w2 w' → Calls Tryz.prog 120 #[.agg #[.bool m1, .slice A1 xs.length c1], .agg #[.bool (!m2), .slice A2 ys.length c2]] w' fun e w'' => ∃ m V, NumR w' m V (max xs.length ys.length + 1) e w'' ∧ sgn m V = sgn m1 (vl 1000000000 xs) + sgn (!m2) (vl 1000000000 ys)) := fun w' hw' => sum_any m1 (!m2) A1 A2 c1 c2 xs ys w' ((S1.below B2).below hw') (S2.below hw') N1 N2 (by omega) (by omega)
         have HB2 := Lib.hid (bt (bt (HAL.out _) B1) B2)
         have HV1 := Lib.hid V1
         have HV2 := Lib.hid V2
         clear S1 S2 B1 B2 V1 V2 N1 N2)
      | (go_at_call 122; refine HOP.out.mono ?_; rintro e w2' ⟨rfl, B2'⟩
         have HS' := Lib.hid (HS.out _ B2')
         have HB2' := Lib.hid (bt HB2.out B2')
         clear B2')
      | (go_at_call 120; refine HS'.out.mono ?_; rintro e w3 ⟨m3, V3, ⟨A3, c3, zs, rfl, S3, N3, V3', L3, L3', C3, B3⟩, hsum⟩
         have HL := Lib.hid (limited_any m3 A3 c3 zs R (by rw [HR.out, V3', hsum, HV1.out, HV2.out, sgn_flip, Int.sub_eq_add_neg]) w3 S3 N3 (by omega) (HV.out.below (bt HB2'.out B3)))
         have HB3 := Lib.hid (bt HB2'.out B3)
         clear S3 N3 V3' hsum B3)
      | (go_at_call 153; refine HL.out.mono ?_; rintro e w4 ⟨rfl, B4⟩))
    go_ret2
    exact ⟨rfl, bt HB3.out B4⟩
  · rw [opS_err hb]
    unfold bothE at hb ⊢
    obtain ⟨x, hx⟩ : ∃ x, chk s.data.toList = x := ⟨_, rfl⟩
    obtain ⟨y, hy⟩ : ∃ y, chk t.data.toList = y := ⟨_, rfl⟩
    rw [hx] at CS hb ⊢
    rw [hy] at CT hb ⊢
    have HO := Lib.hid (or_new x y w)
    generalize (if x = 0 then y else x) = z at *
    have h1 : (z == 0) = false := by rw [beq_eq_false_iff_ne]; exact hb
    clear hx hy hs ht hb
    go_enter Tryz.func126, Tryz.ntmps126
    go_wp2_with (first
      | (go_at_call 118; (with_reducible refine (CS.out _).mono ?_); rintro e w1 ⟨rfl, rfl⟩)
      | (go_at_call 118; (with_reducible refine (CT.out _).mono ?_); rintro e w1 ⟨rfl, rfl⟩)
      | (go_at_call 117; refine (HO.out _).mono ?_; rintro e w1 ⟨rfl, rfl⟩))
    go_ret2
    exact ⟨rfl, HAL.out _⟩
set_option maxRecDepth 100000 in
set_option maxHeartbeats 1600000 in
theorem compare_any : Calls Tryz.prog 79 #[.string s, .string t] w fun e w' => e = .returned (.tuple #[.int .i64 (cmpS s.data.toList t.data.toList).1, .int .i64 (cmpS s.data.toList t.data.toList).2]) ∧ Below w.heap.size w w' := by
  have CS := Lib.hid (fun W => check_any s W hs)
  have CT := Lib.hid (fun W => check_any t W ht)
  have HAL := Lib.hid (fun o => (Below.refl _ w).alloc (Nat.le_refl _) o)
  have HV := Lib.hid hv
  clear hv
  by_cases hb : bothE s.data.toList t.data.toList = 0
  · obtain ⟨hx, hy⟩ := bothE_zero hb
    have PS := Lib.hid (parse_r s hx)
    have PT := Lib.hid (parse_r t hy)
    have HR : Hid (cmpS s.data.toList t.data.toList = (cmpZ (num s.data.toList) (num t.data.toList), 0)) := by show _ = _; unfold cmpS; rw [if_pos hb]
    rw [hx] at CS
    rw [hy] at CT
    rw [HR.out]
    clear HR
    generalize s.data.toList = ls at PS ⊢
    generalize t.data.toList = lt at PT ⊢
    clear hx hy hb hs ht
    have HO := Lib.hid (or_new 0 0 w)
    rw [if_pos rfl] at HO
    go_enter Tryz.func79, Tryz.ntmps79
    go_wp2_with (first
      | (go_at_call 118; (with_reducible refine (CS.out _).mono ?_); rintro e w1 ⟨rfl, rfl⟩)
      | (go_at_call 118; (with_reducible refine (CT.out _).mono ?_); rintro e w1 ⟨rfl, rfl⟩)
      | (go_at_call 117; refine (HO.out _).mono ?_; rintro e w1 ⟨rfl, rfl⟩)
      | (go_at_call 121; (with_reducible refine (PS.out _).mono ?_); rintro e w1 ⟨m1, A1, c1, xs, rfl, S1, N1, V1, L1, L1', C1, B1⟩)
      | (go_at_call 121; (with_reducible refine (PT.out _).mono ?_); rintro e w2 ⟨m2, A2, c2, ys, rfl, S2, N2, V2, L2, L2', C2, B2⟩
         have HOP := Lib.hid (opposite_any m2 A2 ys.length c2 w2)
         have HS : Hid (∀ w', Below w2.heap.size w2 w' → Calls Tryz.prog 120 #[.agg #[.bool m1, .slice A1 xs.length c1], .agg #[.bool (!m2), .slice A2 ys.length c2]] w' fun e w'' => ∃ m V, NumR w' m V (max xs.length ys.length + 1) e w'' ∧ sgn m V = sgn m1 (vl 1000000000 xs) + sgn (!m2) (vl 1000000000 ys)) := fun w' hw' => sum_any m1 (!m2) A1 A2 c1 c2 xs ys w' ((S1.below B2).below hw') (S2.below hw') N1 N2 (by omega) (by omega)
         have HB2 := Lib.hid (bt (bt (HAL.out _) B1) B2)
         have HV1 := Lib.hid V1
         have HV2 := Lib.hid V2
         clear S1 S2 B1 B2 V1 V2 N1 N2)
      | (go_at_call 122; refine HOP.out.mono ?_; rintro e w2' ⟨rfl, B2'⟩
         have HS' := Lib.hid (HS.out _ B2')
         have HB2' := Lib.hid (bt HB2.out B2')
         clear B2')
      | (go_at_call 120; refine HS'.out.mono ?_; rintro e w3 ⟨m3, V3, ⟨A3, c3, zs, rfl, S3, N3, V3', L3, L3', C3, B3⟩, hsum⟩
         have HQ := Lib.hid (sign_cmp N3 (x := num ls) (y := num lt) (by rw [V3', hsum, HV1.out, HV2.out, sgn_flip, Int.sub_eq_add_neg]))
         have HL := Lib.hid (sign_any m3 A3 zs.length c3 w3)
         rw [HQ.out] at HL
         have HB3 := Lib.hid (bt HB2'.out B3)
         clear S3 N3 V3' hsum B3)
      | (go_at_call 119; refine HL.out.mono ?_; rintro e w4 ⟨rfl, B4⟩))
    go_ret2
    exact ⟨rfl, bt HB3.out B4⟩
  · rw [cmpS_err hb]
    unfold bothE at hb ⊢
    obtain ⟨x, hx⟩ : ∃ x, chk s.data.toList = x := ⟨_, rfl⟩
    obtain ⟨y, hy⟩ : ∃ y, chk t.data.toList = y := ⟨_, rfl⟩
    rw [hx] at CS hb ⊢
    rw [hy] at CT hb ⊢
    have HO := Lib.hid (or_new x y w)
    generalize (if x = 0 then y else x) = z at *
    have h1 : (z == 0) = false := by rw [beq_eq_false_iff_ne]; exact hb
    clear hx hy hs ht hb
    go_enter Tryz.func79, Tryz.ntmps79
    go_wp2_with (first
      | (go_at_call 118; (with_reducible refine (CS.out _).mono ?_); rintro e w1 ⟨rfl, rfl⟩)
      | (go_at_call 118; (with_reducible refine (CT.out _).mono ?_); rintro e w1 ⟨rfl, rfl⟩)
      | (go_at_call 117; refine (HO.out _).mono ?_; rintro e w1 ⟨rfl, rfl⟩))
    go_ret2
    exact ⟨rfl, HAL.out _⟩
end
end Go.Proofs.YtbfimfjhdbpenaaGreatDoor
/- The walks of layer 1: the program's Mul. -/
namespace Go.Proofs.YtbfimfjhdbpenaaGreatDoor
open Go Go.RowKit
theorem two_new (w : World) (a b c d : Value) (t : TypeId) :
    ((w.alloc (.cells #[a, b] t (0, 0))).alloc (.cells #[c, d] t (0, 0))).cell? ⟨w.heap.size, 0, none⟩ = some a ∧ ((w.alloc (.cells #[a, b] t (0, 0))).alloc (.cells #[c, d] t (0, 0))).cell? ⟨w.heap.size, 1, none⟩ = some b ∧
    ((w.alloc (.cells #[a, b] t (0, 0))).alloc (.cells #[c, d] t (0, 0))).cell? ⟨w.heap.size + 1, 0, none⟩ = some c ∧ ((w.alloc (.cells #[a, b] t (0, 0))).alloc (.cells #[c, d] t (0, 0))).cell? ⟨w.heap.size + 1, 1, none⟩ = some d ∧
    w.heap.size + 2 ≤ ((w.alloc (.cells #[a, b] t (0, 0))).alloc (.cells #[c, d] t (0, 0))).heap.size ∧ Below w.heap.size w ((w.alloc (.cells #[a, b] t (0, 0))).alloc (.cells #[c, d] t (0, 0))) := by
  refine ⟨?_, ?_, ?_, ?_, by simp, ((Below.refl _ w).alloc (Nat.le_refl _) _).alloc (by simp) _⟩
  · rw [World.cell?_alloc_lt _ _ ⟨w.heap.size, 0, none⟩ (by simp), World.cell?_alloc_at _ _ _ _ rfl]; rfl
  · rw [World.cell?_alloc_lt _ _ ⟨w.heap.size, 1, none⟩ (by simp), World.cell?_alloc_at _ _ _ _ rfl]; rfl
  · rw [World.cell?_alloc_at _ _ _ _ (by simp)]; rfl
  · rw [World.cell?_alloc_at _ _ _ _ (by simp)]; rfl
theorem sgn_xor_mul (m1 m2 : Bool) (a b : Nat) : sgn (!(m1 == m2)) (a * b) = sgn m1 a * sgn m2 b := by
  cases m1 <;> cases m2 <;> simp [sgn, Int.neg_mul, Int.mul_neg]
section
variable (s t : ByteArray) (hs : s.size ≤ maxLen) (ht : t.size ≤ maxLen) (w : World) (hv : VarT w)
include hs ht hv
set_option maxRecDepth 100000 in
set_option maxHeartbeats 3200000 in
theorem mul_any : Calls Tryz.prog 116 #[.string s, .string t] w fun e w' => e = .returned (.tuple #[.string ⟨(opS (· * ·) s.data.toList t.data.toList).1.toArray⟩, .int .i64 (opS (· * ·) s.data.toList t.data.toList).2]) ∧ Below w.heap.size w w' := by
  have CS := Lib.hid (fun W => check_any s W hs)
  have CT := Lib.hid (fun W => check_any t W ht)
  have HAL := Lib.hid (fun o => (Below.refl _ w).alloc (Nat.le_refl _) o)
  have HV := Lib.hid hv
  clear hv
  by_cases hb : bothE s.data.toList t.data.toList = 0
  · obtain ⟨hx, hy⟩ := bothE_zero hb
    have PS := Lib.hid (parse_r s hx)
    have PT := Lib.hid (parse_r t hy)
    have HR : Hid (opS (· * ·) s.data.toList t.data.toList = limS (num s.data.toList * num t.data.toList)) := by show _ = _; unfold opS; rw [if_pos hb]
    rw [hx] at CS
    rw [hy] at CT
    obtain ⟨R, hR⟩ : ∃ R, opS (· * ·) s.data.toList t.data.toList = R := ⟨_, rfl⟩
    rw [hR] at HR ⊢
    generalize s.data.toList = ls at PS HR
    generalize t.data.toList = lt at PT HR
    clear hx hy hb hs ht hR
    have HO := Lib.hid (or_new 0 0 w)
    rw [if_pos rfl] at HO
    go_enter Tryz.func116, Tryz.ntmps116
    go_wp2_with (first
      | (go_at_call 118; (with_reducible refine (CS.out _).mono ?_); rintro e w1 ⟨rfl, rfl⟩)
      | (go_at_call 118; (with_reducible refine (CT.out _).mono ?_); rintro e w1 ⟨rfl, rfl⟩)
      | (go_at_call 117; refine (HO.out _).mono ?_; rintro e w1 ⟨rfl, rfl⟩)
      | (go_at_call 121; (with_reducible refine (PS.out _).mono ?_); rintro e w1 ⟨m1, A1, c1, xs, rfl, S1, N1, V1, L1, L1', C1, B1⟩)
      | (go_at_call 121; (with_reducible refine (PT.out _).mono ?_); rintro e w2 ⟨m2, A2, c2, ys, rfl, S2, N2, V2, L2, L2', C2, B2⟩
         have HM : Hid (∀ W, Below w2.heap.size w2 W → Calls Tryz.prog 154 #[.slice A1 xs.length c1, .slice A2 ys.length c2] W (MagR W (vl 1000000000 xs * vl 1000000000 ys) (xs.length + ys.length))) := fun W hW => product_any A1 A2 c1 c2 xs ys W ((S1.below B2).below hW) (S2.below hW) N1.lt N2.lt (by omega) (by omega)
         have HB2 := Lib.hid (bt (bt (HAL.out _) B1) B2)
         have HV1 := Lib.hid V1
         have HV2 := Lib.hid V2
         clear S1 S2 B1 B2 V1 V2 N1 N2))
    obtain ⟨k0, k1, k2, k3, hsz, hB0⟩ := two_new w2 (.bool m1) (.slice A1 xs.length c1) (.bool m2) (.slice A2 ys.length c2) 162
    generalize hw0 : (w2.alloc (.cells #[.bool m1, .slice A1 xs.length c1] 162)).alloc (.cells #[.bool m2, .slice A2 ys.length c2] 162) = w0 at *
    clear hw0
    obtain ⟨mm, hmm⟩ : ∃ mm, (!(m1 == m2)) = mm := ⟨_, rfl⟩
    have HMM := Lib.hid hmm
    go_region_held3 (fun w' => w'.cell? ⟨w2.heap.size, 0, none⟩ = some (.bool m1) ∧ w'.cell? ⟨w2.heap.size, 1, none⟩ = some (.slice A1 xs.length c1) ∧ w'.cell? ⟨w2.heap.size + 1, 0, none⟩ = some (.bool m2) ∧ w'.cell? ⟨w2.heap.size + 1, 1, none⟩ = some (.slice A2 ys.length c2) ∧ w2.heap.size + 2 ≤ w'.heap.size ∧ Below w2.heap.size w2 w')
      (((try go_split_ands); (and_intros) <;> first
        | assumption | exact Below.drew (by assumption) | (refine (B4.cell ?_).trans ?_; (dsimp only; omega); assumption) | (refine (B3.cell ?_).trans ?_; (show _ < _; simp; omega); assumption) | exact HB4 | exact HB3 | (have := B4.size; omega) | (have := B3.size; simp at *; omega) | (go_keep; done)))
      (first
        | (go_split_ands; go_at_call 154; refine (HM.out _ (by assumption)).mono ?_; rintro e w3 ⟨A3, c3, zs, rfl, S3, N3, V3, L3, L3', C3, B3⟩
           have HB3 : Below w2.heap.size w2 w3 := Below.trans (by assumption) (B3.mono (by simp; omega))
           have HL := Lib.hid (limited_any mm A3 c3 zs R (by rw [HR.out, V3, ← hmm, sgn_xor_mul, HV1.out, HV2.out]) w3 S3 N3 (by omega) (HV.out.below (bt HB2.out HB3))))
        | (go_split_ands; go_at_call 153; (try simp only [hmm]); refine HL.out.mono ?_; rintro e w4 ⟨rfl, B4⟩
           have HB4 : Below w2.heap.size w2 w4 := bt HB3 B4))
    go_wp2
    go_ret2
    exact ⟨rfl, bt HB2.out HB4⟩
  · rw [opS_err hb]
    unfold bothE at hb ⊢
    obtain ⟨x, hx⟩ : ∃ x, chk s.data.toList = x := ⟨_, rfl⟩
    obtain ⟨y, hy⟩ : ∃ y, chk t.data.toList = y := ⟨_, rfl⟩
    rw [hx] at CS hb ⊢
    rw [hy] at CT hb ⊢
    have HO := Lib.hid (or_new x y w)
    generalize (if x = 0 then y else x) = z at *
    have h1 : (z == 0) = false := by rw [beq_eq_false_iff_ne]; exact hb
    clear hx hy hs ht hb
    go_enter Tryz.func116, Tryz.ntmps116
    go_wp2_with (first
      | (go_at_call 118; (with_reducible refine (CS.out _).mono ?_); rintro e w1 ⟨rfl, rfl⟩)
      | (go_at_call 118; (with_reducible refine (CT.out _).mono ?_); rintro e w1 ⟨rfl, rfl⟩)
      | (go_at_call 117; refine (HO.out _).mono ?_; rintro e w1 ⟨rfl, rfl⟩))
    go_ret2
    exact ⟨rfl, HAL.out _⟩
end
end Go.Proofs.YtbfimfjhdbpenaaGreatDoor

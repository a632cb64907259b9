/- The walks of layer 2: inverse, quotient. -/
import Derived.Test.YtgjhgkglfflmjaaGreatDoorRatU
namespace Go.Proofs.YtgjhgkglfflmjaaGreatDoor
open Go Go.RowKit

set_option maxRecDepth 100000 in
set_option maxHeartbeats 1600000 in
theorem inverse_pos (n d : ByteArray) (hn : ngB n.data.toList = false) (w : World) :
    Calls Tryz.prog 50 #[.agg #[.string n, .string d]] w (FraR d n w) := by
  have HN := Lib.hid (fun W => negative_any' n false hn W)
  clear hn
  have HB := Lib.hid (fun a b => ((Below.refl _ w).alloc (Nat.le_refl _) (.cells #[.string n, .string d] 60)).alloc (by simp) (.cells #[.string a, .string b] 60))
  have HR := fun (a b : ByteArray) => heap_alloc_new (w.alloc (.cells #[.string n, .string d] 60)) (.cells #[.string a, .string b] 60)
  rw [show (w.alloc (.cells #[.string n, .string d] 60)).heap.size = w.heap.size + 1 by simp] at HR
  have HR := Lib.hid HR
  go_enter Tryz.func50, Tryz.ntmps50
  go_wp2_with (go_at_call 85; refine (HN.out _).mono ?_; rintro e w2 ⟨rfl, rfl⟩)
  refine bodyPost_ret (v := .agg #[.string d, .string n]) (results_cell_row rfl _ _ (w.heap.size + 1) 60 #[.string d, .string n] (0, 0) _ rfl (HR.out _ _) Tryz.underlying60 (by kernel_rfl) (by kernel_rfl)) rfl ⟨rfl, ?_⟩
  exact HB.out _ _
set_option maxRecDepth 100000 in
set_option maxHeartbeats 1600000 in
theorem inverse_neg (n d m e : ByteArray) (hn : ngB n.data.toList = true) (h0 : 1 ≤ n.size) (hd : d.size ≤ 1073741824) (hm : (⟨#[45]⟩ : ByteArray) ++ d = m) (he : n.extract 1 n.size = e) (w : World) :
    Calls Tryz.prog 50 #[.agg #[.string n, .string d]] w (FraR m e w) := by
  have HN := Lib.hid (fun W => negative_any' n true hn W)
  have h1 : ¬ 9223372036854775807 < 1 + d.size := by omega
  clear hn hd
  have HB := Lib.hid (fun a b => ((Below.refl _ w).alloc (Nat.le_refl _) (.cells #[.string n, .string d] 60)).alloc (by simp) (.cells #[.string a, .string b] 60))
  have HR := fun (a b : ByteArray) => heap_alloc_new (w.alloc (.cells #[.string n, .string d] 60)) (.cells #[.string a, .string b] 60)
  rw [show (w.alloc (.cells #[.string n, .string d] 60)).heap.size = w.heap.size + 1 by simp] at HR
  have HR := Lib.hid HR
  go_enter Tryz.func50, Tryz.ntmps50
  go_wp2_with (go_at_call 85; refine (HN.out _).mono ?_; rintro e w2 ⟨rfl, rfl⟩)
  go_region
  go_wp2
  refine bodyPost_ret (v := .agg #[.string m, .string e]) (results_cell_row rfl _ _ (w.heap.size + 1) 60 #[.string m, .string e] (0, 0) _ rfl (HR.out _ _) Tryz.underlying60 (by kernel_rfl) (by kernel_rfl)) rfl ⟨rfl, ?_⟩
  exact Below.drew (HB.out _ _)
/-- Three blocks: both arguments, the result. -/
theorem rows3 (w : World) (a b c d : Value) (t : TypeId) {w3 : World}
    (h3 : (((w.alloc (.cells #[a, b] t (0, 0))).alloc (.cells #[c, d] t (0, 0))).alloc (.cells #[.string ⟨#[]⟩, .string ⟨#[]⟩] t (0, 0))) = w3) :
    Below w.heap.size w w3 ∧ w.heap.size + 3 ≤ w3.heap.size ∧
    w3.cell? ⟨w.heap.size, 0, none⟩ = some a ∧ w3.cell? ⟨w.heap.size, 1, none⟩ = some b ∧ w3.cell? ⟨w.heap.size + 1, 0, none⟩ = some c ∧ w3.cell? ⟨w.heap.size + 1, 1, none⟩ = some d ∧
    w3.heap[w.heap.size + 1 + 1]? = some (.cells #[.string ⟨#[]⟩, .string ⟨#[]⟩] t (0, 0)) := by
  have hh : w3.heap = (((w.heap.push (.cells #[a, b] t (0, 0))).push (.cells #[c, d] t (0, 0))).push (.cells #[.string ⟨#[]⟩, .string ⟨#[]⟩] t (0, 0))) := by subst h3; rfl
  have B : Below w.heap.size w w3 := by
    subst h3
    exact (((Below.refl _ w).alloc (Nat.le_refl _) _).alloc (by simp) _).alloc (by simp; omega) _
  clear h3
  have g0 : w3.heap[w.heap.size]? = some (.cells #[a, b] t (0, 0)) := by
    rw [hh]; simp only [Array.getElem?_push, Array.size_push]
    rw [if_neg (by omega), if_neg (by omega), if_pos trivial]
  have g1 : w3.heap[w.heap.size + 1]? = some (.cells #[c, d] t (0, 0)) := by
    rw [hh]; simp only [Array.getElem?_push, Array.size_push]
    rw [if_neg (by omega), if_pos trivial]
  have g2 : w3.heap[w.heap.size + 1 + 1]? = some (.cells #[.string ⟨#[]⟩, .string ⟨#[]⟩] t (0, 0)) := by
    rw [hh]; simp only [Array.getElem?_push, Array.size_push]
    rw [if_pos trivial]
  have hs : w.heap.size + 3 ≤ w3.heap.size := by rw [hh]; simp
  clear hh
  obtain ⟨k1, k2, _, _⟩ := row2 g0
  obtain ⟨k3, k4, _, _⟩ := row2 g1
  exact ⟨B, hs, k1, k2, k3, k4, g2⟩

set_option maxRecDepth 100000 in
set_option maxHeartbeats 3200000 in
theorem quotient_walk (an ad bn bd im id' N D : ByteArray) (c : Int) (hb : (bn.toList == [48]) = false) (w : World) (hv : VarT w)
    (HI : ∀ W, Calls Tryz.prog 50 #[.agg #[.string bn, .string bd]] W (FraR im id' W))
    (HP : ∀ W, VarT W → Calls Tryz.prog 40 #[.agg #[.string an, .string ad], .agg #[.string im, .string id']] W (PrsR N D c W)) :
    Calls Tryz.prog 45 #[.agg #[.string an, .string ad], .agg #[.string bn, .string bd]] w (PrsR N D c w) := by
  have JI := Lib.hid HI
  have JP := Lib.hid HP
  have HV := Lib.hid hv
  have HR := Lib.hid (fun (w3 : World) => @rows3 w (.string an) (.string ad) (.string bn) (.string bd) 60 w3)
  clear HI HP hv
  go_enter Tryz.func45, Tryz.ntmps45
  go_wp2
  obtain ⟨B3, s3, k1, k2, k3, k4, k5⟩ := HR.out _ rfl
  generalize (((w.alloc (.cells #[.string an, .string ad] 60 (0, 0))).alloc (.cells #[.string bn, .string bd] 60 (0, 0))).alloc (.cells #[.string ⟨#[]⟩, .string ⟨#[]⟩] 60 (0, 0))) = w3 at *
  obtain ⟨z1, z2, z3, z4⟩ := row2 k5
  have z5 : (w3.cell? ⟨w.heap.size + 1 + 1, 0, none⟩).isSome = true := by rw [z1]; rfl
  have z6 : (w3.cell? ⟨w.heap.size + 1 + 1, 1, none⟩).isSome = true := by rw [z2]; rfl
  go_region_held3 (fun w' => w'.cell? ⟨w.heap.size, 0, none⟩ = some (.string an) ∧ w'.cell? ⟨w.heap.size, 1, none⟩ = some (.string ad) ∧ w'.cell? ⟨w.heap.size + 1, 0, none⟩ = some (.string bn) ∧ w'.cell? ⟨w.heap.size + 1, 1, none⟩ = some (.string bd) ∧
      (w'.cell? ⟨w.heap.size + 1 + 1, 0, none⟩).isSome = true ∧ (w'.cell? ⟨w.heap.size + 1 + 1, 1, none⟩).isSome = true ∧ w'.frozen? ⟨w.heap.size + 1 + 1, 0, none⟩ = false ∧ w'.frozen? ⟨w.heap.size + 1 + 1, 1, none⟩ = false ∧ w.heap.size + 3 ≤ w'.heap.size ∧ Below w.heap.size w w')
    (((try go_split_ands); (and_intros) <;> first
        | assumption | exact Below.drew (by assumption)
        | (refine (b2.cell ?_).trans ?_; (show _ < _; simp; omega); assumption) | (rw [b2.cell (by show _ < _; simp; omega)]; assumption) | (rw [b2.frozen (by show _ < _; simp; omega)]; assumption) | (have := b2.size; simp at *; omega)
        | (refine (b1.cell ?_).trans ?_; (show _ < _; simp; omega); assumption) | (rw [b1.cell (by show _ < _; simp; omega)]; assumption) | (rw [b1.frozen (by show _ < _; simp; omega)]; assumption) | (have := b1.size; simp at *; omega)
        | exact HST _ _ | (rw [sc_far _ _ (by omega)]; assumption) | (rw [sc_0 _ _ q1]; rfl) | (rw [sc_1 _ _ q2]; rfl) | (go_keep; done)))
    (first
      | (go_split_ands; go_at_call 50; (with_reducible refine (JI.out _).mono ?_); rintro e w4 ⟨rfl, b1⟩; have T1 : Below w.heap.size w w4 := Below.trans (by assumption) (b1.mono (by simp; omega)); have R1 : w4.heap[w.heap.size + 1 + 1]? = some (.cells #[.string ⟨#[]⟩, .string ⟨#[]⟩] 60 (0, 0)) := (b1.block _ (by show _ < _; simp; omega)).trans k5)
      | (go_split_ands; go_at_call 40; (with_reducible refine (JP.out _ (HV.out.below T1)).mono ?_); rintro e w5 ⟨rfl, b2⟩; have T2 : Below w.heap.size w w5 := bt T1 b2; have R2 := (b2.block _ (lt_of_block R1)).trans R1; have HST : ∀ v1 v2, Below w.heap.size w ((w5.setCell ⟨w.heap.size + 1 + 1, 0, none⟩ v1).setCell ⟨w.heap.size + 1 + 1, 1, none⟩ v2) := fun v1 v2 => (T2.setCell (by show w.heap.size ≤ w.heap.size + 1 + 1; omega) _).setCell (by show w.heap.size ≤ w.heap.size + 1 + 1; omega) _; obtain ⟨q1, q2, q3, q4⟩ := row2 R2))
  go_wp2
  refine bodyPost_ret (v := .tuple #[.agg #[.string N, .string D], .int .i64 c]) (results_cell_tmp rfl _ _ (w.heap.size + 1 + 1) 60 #[.string N, .string D] (0, 0) _ (.int .i64 c) rfl rfl (sc_row _ _ R2) Tryz.underlying60 (by kernel_rfl) (by kernel_rfl)) rfl ⟨rfl, HST _ _⟩
set_option maxRecDepth 100000 in
set_option maxHeartbeats 1600000 in
theorem quotient_zero (an ad bn bd : ByteArray) (hb : (bn.toList == [48]) = true) (w : World) :
    Calls Tryz.prog 45 #[.agg #[.string an, .string ad], .agg #[.string bn, .string bd]] w (PrsR ⟨#[]⟩ ⟨#[]⟩ 16 w) := by
  have HR := Lib.hid (fun (w3 : World) => @rows3 w (.string an) (.string ad) (.string bn) (.string bd) 60 w3)
  go_enter Tryz.func45, Tryz.ntmps45
  go_wp2
  obtain ⟨B3, s3, k1, k2, k3, k4, k5⟩ := HR.out _ rfl
  exact bodyPost_ret (v := .tuple #[.agg #[.string ⟨#[]⟩, .string ⟨#[]⟩], .int .i64 16]) (results_cell_tmp rfl _ _ (w.heap.size + 1 + 1) 60 #[.string ⟨#[]⟩, .string ⟨#[]⟩] (0, 0) _ (.int .i64 16) rfl rfl k5 Tryz.underlying60 (by kernel_rfl) (by kernel_rfl)) rfl ⟨rfl, B3⟩
end Go.Proofs.YtgjhgkglfflmjaaGreatDoor

/- The walks of layer 2: the reduced fraction. -/
import Derived.Test.YtgjhgkglfflmjaaGreatDoorRatB
namespace Go.Proofs.YtgjhgkglfflmjaaGreatDoor
open Go Go.RowKit

/-- The divisor of both parts, with the sign of the denominator. -/
def qG (x y : Int) : Int := if y < 0 then -((Nat.gcd x.natAbs y.natAbs : Nat) : Int) else ((Nat.gcd x.natAbs y.natAbs : Nat) : Int)
def qN (x y : Int) : Int := x / qG x y
def qD (x y : Int) : Int := y / qG x y
theorem qG_ne {x y : Int} (h : y ≠ 0) : qG x y ≠ 0 := by
  have h1 : 0 < Nat.gcd x.natAbs y.natAbs := Nat.gcd_pos_of_pos_right _ (by omega)
  unfold qG
  split <;> omega
theorem qG_natAbs (x y : Int) : (qG x y).natAbs = Nat.gcd x.natAbs y.natAbs := by unfold qG; split <;> simp
theorem qG_dvd_left (x y : Int) : qG x y ∣ x := by
  rw [← Int.natAbs_dvd_natAbs, qG_natAbs]; exact Nat.gcd_dvd_left _ _
theorem qG_dvd_right (x y : Int) : qG x y ∣ y := by
  rw [← Int.natAbs_dvd_natAbs, qG_natAbs]; exact Nat.gcd_dvd_right _ _
theorem qN_mul (x y : Int) : qN x y * qG x y = x := Int.ediv_mul_cancel (qG_dvd_left x y)
theorem qD_mul (x y : Int) : qD x y * qG x y = y := Int.ediv_mul_cancel (qG_dvd_right x y)
theorem minus_cat (g : Int) (h : 0 < g) (s : ByteArray) (hs : rep g = s) : (⟨#[45]⟩ : ByteArray) ++ s = rep (-g) := by
  obtain ⟨u, rfl⟩ := Int.eq_ofNat_of_zero_le (show 0 ≤ g by omega)
  subst hs
  apply ByteArray.ext
  unfold rep
  rw [itoa_neg u (by omega), itoa_pos]
  simp
def FraR (n d : ByteArray) (w : World) (e : Ending) (w' : World) : Prop := e = .returned (.agg #[.string n, .string d]) ∧ Below w.heap.size w w'
theorem divisor_rep {x y g : Int} (hx : x.natAbs < lim) (hy : y.natAbs < lim) (hg : ((Nat.gcd x.natAbs y.natAbs : Nat) : Int) = g) (s t u : ByteArray) (hs : rep x = s) (ht : rep y = t) (hu : rep g = u) (w : World) (hv : VarT w) :
    Calls Tryz.prog 75 #[.string s, .string t] w (StrR u w) := by
  subst hs; subst ht; subst hu
  exact divisor_any (rep x) (rep y) (rep_size hx) (rep_size hy) _ (gcS_rep hx hy hg) w hv
theorem row_far {w w1 : World} {r : Nat} {t : TypeId} {cs : Array Value} (h : w.heap[r]? = some (.cells cs t (0, 0))) (hb : Below w.heap.size w w1) : w1.heap[r]? = some (.cells cs t (0, 0)) := (hb.block r (lt_of_block h)).trans h

set_option maxRecDepth 100000 in
set_option maxHeartbeats 1600000 in
theorem reduced_rep {x y : Int} (hx : x.natAbs < lim) (hy : y.natAbs < lim) (h0 : y ≠ 0) (s t u v : ByteArray) (hs : rep x = s) (ht : rep y = t) (hu : rep (qN x y) = u) (hd : rep (qD x y) = v) (w : World) (hv : VarT w) :
    Calls Tryz.prog 49 #[.string s, .string t] w (FraR u v w) := by
  have hgp : 0 < Nat.gcd x.natAbs y.natAbs := Nat.gcd_pos_of_pos_right _ (by omega)
  have hgl : (Nat.gcd x.natAbs y.natAbs) ≤ y.natAbs := Nat.gcd_le_right _ (by omega)
  obtain ⟨sg, hsg⟩ : ∃ r, rep ((Nat.gcd x.natAbs y.natAbs : Nat) : Int) = r := ⟨_, rfl⟩
  have C1 := Lib.hid (divisor_rep hx hy rfl _ _ _ hs ht hsg)
  have LG : (qG x y).natAbs < lim := by rw [qG_natAbs]; omega
  have hng : ngB t.data.toList = decide (y < 0) := by
    have hc := chk_of_abs hy
    rw [← ht, rep_data]
    cases hn : ngB (Lib.itoa y)
    · have := (ng_num hc).2 hn; rw [num_itoa] at this; exact (decide_eq_false (by omega)).symm
    · have := (ng_num hc).1 hn; rw [num_itoa] at this; exact (decide_eq_true this).symm
  have hsz : ¬ 9223372036854775807 < 1 + sg.size := by
    have : ((Nat.gcd x.natAbs y.natAbs : Nat) : Int).natAbs < lim := by rw [Int.natAbs_natCast]; omega
    have := rep_size this
    have h2 := len_of_chk (chk_of_abs (z := ((Nat.gcd x.natAbs y.natAbs : Nat) : Int)) (by rw [Int.natAbs_natCast]; omega))
    rw [← hsg, Lib.size_eq, rep_data]; omega
  have HV := Lib.hid hv
  have HB := Lib.hid ((Below.refl _ w).alloc (Nat.le_refl _) (.cells #[.string ⟨#[]⟩, .string ⟨#[]⟩] 60))
  have HR := heap_alloc_new w (.cells #[.string ⟨#[]⟩, .string ⟨#[]⟩] 60)
  by_cases hneg : y < 0
  · have eG : qG x y = -((Nat.gcd x.natAbs y.natAbs : Nat) : Int) := by unfold qG; rw [if_pos hneg]
    have HN := Lib.hid (fun W => negative_any' t true (by rw [hng]; exact decide_eq_true hneg) W)
    have hcat : rep (qG x y) = (⟨#[45]⟩ : ByteArray) ++ sg := by rw [eG]; exact (minus_cat _ (by omega) sg hsg).symm
    obtain ⟨m1, e1⟩ : ∃ r, rep (x % qG x y) = r := ⟨_, rfl⟩
    obtain ⟨m2, e2⟩ : ∃ r, rep (y % qG x y) = r := ⟨_, rfl⟩
    have C2 := Lib.hid (divmod_rep hx LG (qG_ne h0) rfl rfl _ _ _ _ hs hcat hu e1)
    have C3 := Lib.hid (divmod_rep hy LG (qG_ne h0) rfl rfl _ _ _ _ ht hcat hd e2)
    clear hgp hgl hsg LG hng hcat eG e1 e2 hx hy h0 hs ht hu hd hv hneg
    go_enter Tryz.func49, Tryz.ntmps49
    go_wp2_with (first
      | (go_at_call 75; refine (C1.out _ (HV.out.below HB.out)).mono ?_; rintro e w1 ⟨rfl, b⟩; have B1 := Lib.hid (bt HB.out b); have R1 := row_far HR b; clear b)
      | (go_at_call 85; refine (HN.out _).mono ?_; rintro e w2 ⟨rfl, rfl⟩)
      | (go_at_call 86; (with_reducible refine (C2.out _ (HV.out.below B1.out)).mono ?_); rintro e w3 ⟨rfl, b⟩; have B2 := Lib.hid (bt B1.out b); have R2 := row_far R1 b; clear b)
      | (go_at_call 86; (with_reducible refine (C3.out _ (HV.out.below B2.out)).mono ?_); rintro e w4 ⟨rfl, b⟩; have B3 := Lib.hid (bt B2.out b); have R3 := row_far R2 b; obtain ⟨k1, k2, k3, k4⟩ := row2 R3; clear b))
    refine bodyPost_ret (v := .agg #[.string u, .string v]) (results_cell_row rfl _ _ w.heap.size 60 #[.string u, .string v] (0, 0) _ rfl (sc_row _ _ R3) Tryz.underlying60 (by kernel_rfl) (by kernel_rfl)) rfl ⟨rfl, ?_⟩
    exact (B3.out.setCell (p := ⟨w.heap.size, 0, none⟩) (Nat.le_refl _) _).setCell (p := ⟨w.heap.size, 1, none⟩) (Nat.le_refl _) _
  · have eG : qG x y = ((Nat.gcd x.natAbs y.natAbs : Nat) : Int) := by unfold qG; rw [if_neg hneg]
    have HN := Lib.hid (fun W => negative_any' t false (by rw [hng]; exact decide_eq_false hneg) W)
    have hcat : rep (qG x y) = sg := by rw [eG]; exact hsg
    obtain ⟨m1, e1⟩ : ∃ r, rep (x % qG x y) = r := ⟨_, rfl⟩
    obtain ⟨m2, e2⟩ : ∃ r, rep (y % qG x y) = r := ⟨_, rfl⟩
    have C2 := Lib.hid (divmod_rep hx LG (qG_ne h0) rfl rfl _ _ _ _ hs hcat hu e1)
    have C3 := Lib.hid (divmod_rep hy LG (qG_ne h0) rfl rfl _ _ _ _ ht hcat hd e2)
    clear hgp hgl hsg LG hng hcat eG e1 e2 hx hy h0 hs ht hu hd hv hneg
    go_enter Tryz.func49, Tryz.ntmps49
    go_wp2_with (first
      | (go_at_call 75; refine (C1.out _ (HV.out.below HB.out)).mono ?_; rintro e w1 ⟨rfl, b⟩; have B1 := Lib.hid (bt HB.out b); have R1 := row_far HR b; clear b)
      | (go_at_call 85; refine (HN.out _).mono ?_; rintro e w2 ⟨rfl, rfl⟩)
      | (go_at_call 86; (with_reducible refine (C2.out _ (HV.out.below B1.out)).mono ?_); rintro e w3 ⟨rfl, b⟩; have B2 := Lib.hid (bt B1.out b); have R2 := row_far R1 b; clear b)
      | (go_at_call 86; (with_reducible refine (C3.out _ (HV.out.below B2.out)).mono ?_); rintro e w4 ⟨rfl, b⟩; have B3 := Lib.hid (bt B2.out b); have R3 := row_far R2 b; obtain ⟨k1, k2, k3, k4⟩ := row2 R3; clear b))
    refine bodyPost_ret (v := .agg #[.string u, .string v]) (results_cell_row rfl _ _ w.heap.size 60 #[.string u, .string v] (0, 0) _ rfl (sc_row _ _ R3) Tryz.underlying60 (by kernel_rfl) (by kernel_rfl)) rfl ⟨rfl, ?_⟩
    exact (B3.out.setCell (p := ⟨w.heap.size, 0, none⟩) (Nat.le_refl _) _).setCell (p := ⟨w.heap.size, 1, none⟩) (Nat.le_refl _) _
end Go.Proofs.YtgjhgkglfflmjaaGreatDoor

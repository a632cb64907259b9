/- The walks of layer 2: product, inverse, quotient. -/
import Derived.Test.YtalnfbgaiegicaaGreatDoorRatS
import Derived.Test.YtalnfbgaiegicaaGreatDoorRatM
import Derived.Test.YtalnfbgaiegicaaGreatDoorRatE
import Derived.BigRegion
namespace Go.Proofs.YtalnfbgaiegicaaGreatDoor
open Go Go.RowKit

theorem mul_lims {x y : Int} (hx : x.natAbs < lim) (hy : y.natAbs < lim) (r : ByteArray) (c : Int) (hr : r = if LB (x * y) = true then rep (x * y) else ⟨#[]⟩) (hc : c = if LB (x * y) = true then 0 else 14) (s t : ByteArray) (hs : rep x = s) (ht : rep y = t) (w : World) (hv : VarT w) :
    Calls Tryz.prog 106 #[.string s, .string t] w (StE r c w) := by
  subst hs; subst ht
  have h := mul_any (rep x) (rep y) (rep_size hx) (rep_size hy) w hv
  rw [rep_data, rep_data, opS_ok (by unfold bothE; rw [if_pos (chk_of_abs hx)]; exact chk_of_abs hy), num_itoa, num_itoa] at h
  subst hr; subst hc
  unfold limS at h
  cases hl : LB (x * y)
  · rw [if_neg (LB_false hl)] at h
    exact h
  · rw [if_pos (LB_true.1 hl)] at h
    exact h
theorem reduced_q {x y : Int} {q : Rat} (hx : x.natAbs < lim) (hy : y.natAbs < lim) (h0 : y ≠ 0) (hq : Rat.divInt x y = q) (s t : ByteArray) (hs : rep x = s) (ht : rep y = t) (w : World) (hv : VarT w) :
    Calls Tryz.prog 114 #[.string s, .string t] w (FraR (rep q.num) (rep (q.den : Int)) w) := by
  subst hq
  exact reduced_rep hx hy h0 s t _ _ hs ht (by rw [qN_rat h0]) (by rw [qD_rat h0]) w hv
set_option maxRecDepth 100000 in
set_option maxHeartbeats 3200000 in
theorem product_ok (an ad bn bd r1 r2 N D : ByteArray) (w : World) (hv : VarT w)
    (H1 : ∀ W, VarT W → Calls Tryz.prog 106 #[.string an, .string bn] W (StE r1 0 W))
    (H2 : ∀ W, VarT W → Calls Tryz.prog 106 #[.string ad, .string bd] W (StE r2 0 W))
    (H3 : ∀ W, VarT W → Calls Tryz.prog 114 #[.string r1, .string r2] W (FraR N D W)) :
    Calls Tryz.prog 64 #[.agg #[.string an, .string ad], .agg #[.string bn, .string bd]] w (PrsR N D 0 w) := by
  have J1 := Lib.hid H1
  have J2 := Lib.hid H2
  have J3 := Lib.hid H3
  have HV := Lib.hid hv
  have HR := Lib.hid (fun (w5 : World) => @rows5 w (.string an) (.string ad) (.string bn) (.string bd) 87 22 92 hv w5)
  clear H1 H2 H3 hv
  go_enter Tryz.func64, Tryz.ntmps64
  go_wp2_with (go_at_call 59; refine (multiplier_any _ _).mono ?_; rintro e w5 ⟨rfl, h5⟩; obtain ⟨C0, k1, k2, k3, k4, k5⟩ := HR.out w5 h5; clear h5)
  have hC0 := C0.drew
  clear C0
  have hk5 : w5.drew.heap[w.heap.size + 1 + 1]? = some (.cells #[.string ⟨#[]⟩, .string ⟨#[]⟩] 87 (0, 0)) := k5
  clear k5
  go_region_held3 (fun w' => w'.cell? ⟨w.heap.size, 0, none⟩ = some (.string an) ∧ w'.cell? ⟨w.heap.size, 1, none⟩ = some (.string ad) ∧ w'.cell? ⟨w.heap.size + 1, 0, none⟩ = some (.string bn) ∧ w'.cell? ⟨w.heap.size + 1, 1, none⟩ = some (.string bd))
    (((try go_split_ands); (and_intros) <;> first | assumption | exact tim_far (by assumption) (by omega) b2 | exact tim_far (by assumption) (by omega) b1 | (go_keep; done)))
    (first
      | (go_split_ands; go_at_call 105; (with_reducible refine (hC0.call _ _ r1 0 0 rfl J1.out).mono ?_); rintro e w6 ⟨rfl, b1⟩; have hC1 := hC0.after (by omega) (by omega) HV.out b1; have hk6 := tim_row hk5 (by omega) b1)
      | (go_split_ands; go_at_call 105; (with_reducible refine (hC1.call _ _ r2 0 0 rfl J2.out).mono ?_); rintro e w7 ⟨rfl, b2⟩; have hC2 := hC1.after (by omega) (by omega) HV.out b2; have hk7 := tim_row hk6 (by omega) b2))
  have hq := hC2.hq
  have HC2 := Lib.hid hC2
  have HK := Lib.hid hk7
  clear hC0 hC1 hC2 hk5 hk6 hk7 b1 b2 k1 k2 k3 k4
  go_wp2_with (go_at_call 114; refine (J3.out _ HC2.out.v).mono ?_; rintro e w8 ⟨rfl, b⟩; have R := (b.block _ (lt_of_block HK.out)).trans HK.out; obtain ⟨k1, k2, k3, k4⟩ := row2 R; have HR8 := Lib.hid R; have B8 := Lib.hid (bt HC2.out.bl b); clear R b)
  refine bodyPost_ret (v := .tuple #[.agg #[.string N, .string D], .int .i64 0]) (results_cell_tmp rfl _ _ (w.heap.size + 1 + 1) 87 #[.string N, .string D] (0, 0) _ (.int .i64 0) rfl rfl (sc_row _ _ HR8.out) Tryz.underlying87 (by kernel_rfl) (by kernel_rfl)) rfl ⟨rfl, ?_⟩
  exact (B8.out.setCell (p := ⟨w.heap.size + 1 + 1, 0, none⟩) (by show w.heap.size ≤ w.heap.size + 1 + 1; omega) _).setCell (p := ⟨w.heap.size + 1 + 1, 1, none⟩) (by show w.heap.size ≤ w.heap.size + 1 + 1; omega) _
set_option maxRecDepth 100000 in
set_option maxHeartbeats 3200000 in
theorem product_err (an ad bn bd r1 r2 : ByteArray) (c1 c2 c : Int) (hc : (if c1 = 0 then c2 else c1) = c) (h0 : ¬ c = 0) (w : World) (hv : VarT w)
    (H1 : ∀ W, VarT W → Calls Tryz.prog 106 #[.string an, .string bn] W (StE r1 c1 W))
    (H2 : ∀ W, VarT W → Calls Tryz.prog 106 #[.string ad, .string bd] W (StE r2 c2 W)) :
    Calls Tryz.prog 64 #[.agg #[.string an, .string ad], .agg #[.string bn, .string bd]] w (PrsR ⟨#[]⟩ ⟨#[]⟩ c w) := by
  have J1 := Lib.hid H1
  have J2 := Lib.hid H2
  have HC := Lib.hid hc
  have hz : (c == 0) = false := by rw [beq_eq_false_iff_ne]; exact h0
  clear H1 H2 hc h0
  have HV := Lib.hid hv
  have HR := Lib.hid (fun (w5 : World) => @rows5 w (.string an) (.string ad) (.string bn) (.string bd) 87 22 92 hv w5)
  clear hv
  go_enter Tryz.func64, Tryz.ntmps64
  go_wp2_with (go_at_call 59; refine (multiplier_any _ _).mono ?_; rintro e w5 ⟨rfl, h5⟩; obtain ⟨C0, k1, k2, k3, k4, k5⟩ := HR.out w5 h5; clear h5)
  have hC0 := C0.drew
  clear C0
  have hk5 : w5.drew.heap[w.heap.size + 1 + 1]? = some (.cells #[.string ⟨#[]⟩, .string ⟨#[]⟩] 87 (0, 0)) := k5
  clear k5
  go_region_held3 (fun w' => w'.cell? ⟨w.heap.size, 0, none⟩ = some (.string an) ∧ w'.cell? ⟨w.heap.size, 1, none⟩ = some (.string ad) ∧ w'.cell? ⟨w.heap.size + 1, 0, none⟩ = some (.string bn) ∧ w'.cell? ⟨w.heap.size + 1, 1, none⟩ = some (.string bd))
    (((try go_split_ands); (and_intros) <;> first | assumption | exact tim_far (by assumption) (by omega) b2 | exact tim_far (by assumption) (by omega) b1 | (go_keep; done)))
    (first
      | (go_split_ands; go_at_call 105; (with_reducible refine (hC0.call _ _ r1 c1 c1 (if_pos rfl) J1.out).mono ?_); rintro e w6 ⟨rfl, b1⟩; have hC1 := hC0.after (by omega) (by omega) HV.out b1; have hk6 := tim_row hk5 (by omega) b1)
      | (go_split_ands; go_at_call 105; (with_reducible refine (hC1.call _ _ r2 c2 c HC.out J2.out).mono ?_); rintro e w7 ⟨rfl, b2⟩; have hC2 := hC1.after (by omega) (by omega) HV.out b2; have hk7 := tim_row hk6 (by omega) b2))
  have hq := hC2.hq
  have HC2 := Lib.hid hC2
  have HK := Lib.hid hk7
  obtain ⟨z1, z2, z3, z4⟩ := row2 hk7
  clear hC0 hC1 hC2 hk5 hk6 hk7 b1 b2 k1 k2 k3 k4
  go_wp2
  go_region
  all_goals
    go_wp2
    refine bodyPost_ret (v := .tuple #[.agg #[.string ⟨#[]⟩, .string ⟨#[]⟩], .int .i64 c]) (results_cell_tmp rfl _ _ (w.heap.size + 1 + 1) 87 #[.string ⟨#[]⟩, .string ⟨#[]⟩] (0, 0) _ (.int .i64 c) rfl rfl (sc_row _ _ HK.out) Tryz.underlying87 (by kernel_rfl) (by kernel_rfl)) rfl ⟨rfl, ?_⟩
    exact ((Below.drew HC2.out.bl).setCell (p := ⟨w.heap.size + 1 + 1, 0, none⟩) (by show w.heap.size ≤ w.heap.size + 1 + 1; omega) _).setCell (p := ⟨w.heap.size + 1 + 1, 1, none⟩) (by show w.heap.size ≤ w.heap.size + 1 + 1; omega) _
end Go.Proofs.YtalnfbgaiegicaaGreatDoor

/- The walks of layer 2: sums and differences. -/
import Derived.Test.YtalnfbgaiegicaaGreatDoorRatT
namespace Go.Proofs.YtalnfbgaiegicaaGreatDoor
open Go Go.RowKit

theorem run_loadVar_cell {P : Program} (w : World) (ty : TypeId) (a : Addr) (u : Value) (d : TypeDesc) (hu : P.underlying ty = some d) (hd : (match d with | .struct _ | .array _ _ => true | _ => false) = false) (hc : w.cell? a = some u) : (loadVar ty a).run P w = .ok u w := by
  have hagg : (isAgg ty).run P w = .ok false w := by
    unfold isAgg
    rw [Sem.run_bind, run_underlying hu w]
    cases d <;> simp_all
  simp [loadVar, Sem.run_bind, hagg, hc]
theorem results_cell_cell {P : Program} {fn : Func} {p q : Tmp} {ty ty2 : TypeId} (h : fn.results = #[.cell p ty, .cell q ty2]) (tmps : Array Value) (w : World) (g : Nat) (t : TypeId) (cs : Array Value) (fr : Nat × Nat) (d d2 : TypeDesc) (g2 : Nat) (u : Value)
    (hp : tmps.getD p undef = .pointer (some ⟨g, 0, none⟩)) (hq : tmps.getD q undef = .pointer (some ⟨g2, 0, none⟩)) (hg : w.heap[g]? = some (.cells cs t fr)) (hc : w.cell? ⟨g2, 0, none⟩ = some u)
    (hu : P.underlying ty = some d) (hd : (match d with | .struct _ | .array _ _ => true | _ => false) = true) (hi : (P.info? ty).map (·.size) = some cs.size)
    (hu2 : P.underlying ty2 = some d2) (hd2 : (match d2 with | .struct _ | .array _ _ => true | _ => false) = false) :
    (results fn tmps).run P w = .ok (.tuple #[.agg cs, u]) w := by
  have hp' : tmps[p]?.getD undef = .pointer (some ⟨g, 0, none⟩) := by simpa using hp
  have hq' : tmps[q]?.getD undef = .pointer (some ⟨g2, 0, none⟩) := by simpa using hq
  simp [results, h, hp', hq', asAddr, run_loadVar_row w g t ty cs fr d hg hu hd hi, run_loadVar_cell w ty2 _ u d2 hu2 hd2 hc]

theorem tsc_a {w : World} {r q : Nat} {a b v1 v2 v : Value} {t : TypeId} (hne : q ≠ r) (h : w.heap[r]? = some (.cells #[a, b] t (0, 0))) : (((w.setCell ⟨r, 0, none⟩ v1).setCell ⟨r, 1, none⟩ v2).setCell ⟨q, 0, none⟩ v).heap[r]? = some (.cells #[v1, v2] t (0, 0)) := by
  have := sc_row v1 v2 h
  rw [World.setCell, Array.getElem?_modify, if_neg hne]; exact this
theorem tsc_b {w : World} {r q : Nat} {a b v1 v2 v : Value} {t : TypeId} (hne : q ≠ r) (h : w.heap[r]? = some (.cells #[a, b] t (0, 0))) : (((w.setCell ⟨q, 0, none⟩ v).setCell ⟨r, 0, none⟩ v1).setCell ⟨r, 1, none⟩ v2).heap[r]? = some (.cells #[v1, v2] t (0, 0)) := by
  refine sc_row (a := a) (b := b) v1 v2 ?_
  rw [World.setCell, Array.getElem?_modify, if_neg hne]; exact h
theorem tsq_a {w : World} {r q : Nat} {u v1 v2 v : Value} (hne : q ≠ r) (h : w.cell? ⟨q, 0, none⟩ = some u) : (((w.setCell ⟨r, 0, none⟩ v1).setCell ⟨r, 1, none⟩ v2).setCell ⟨q, 0, none⟩ v).cell? ⟨q, 0, none⟩ = some v :=
  World.cell?_setCell_same _ _ _ (u := u) (by rw [World.cell?_setCell_far _ _ _ _ (fun e => hne e.symm), World.cell?_setCell_far _ _ _ _ (fun e => hne e.symm)]; exact h)
theorem tsq_b {w : World} {r q : Nat} {u v1 v2 v : Value} (hne : q ≠ r) (h : w.cell? ⟨q, 0, none⟩ = some u) : (((w.setCell ⟨q, 0, none⟩ v).setCell ⟨r, 0, none⟩ v1).setCell ⟨r, 1, none⟩ v2).cell? ⟨q, 0, none⟩ = some v := by
  rw [World.cell?_setCell_far _ _ _ _ (fun e => hne e.symm), World.cell?_setCell_far _ _ _ _ (fun e => hne e.symm)]
  exact World.cell?_setCell_same _ _ _ h
theorem rowset {w : World} {r q : Nat} {cs : Array Value} {v : Value} {t : TypeId} (hne : q ≠ r) (h : w.heap[r]? = some (.cells cs t (0, 0))) : (w.setCell ⟨q, 0, none⟩ v).heap[r]? = some (.cells cs t (0, 0)) := by
  rw [World.setCell, Array.getElem?_modify, if_neg hne]; exact h
theorem tim_fz {w : World} {p : Addr} {v : Value} {a : Addr} (h : w.frozen? a = false) : (w.setCell p v).frozen? a = false := (by rw [World.frozen?_setCell] : (w.setCell p v).frozen? a = w.frozen? a).trans h
theorem tsw_a {N : Nat} {w0 w : World} {r q : Nat} {v1 v2 v : Value} (h1 : N ≤ r) (h2 : N ≤ q) (h : Below N w0 w) : Below N w0 (((w.setCell ⟨r, 0, none⟩ v1).setCell ⟨r, 1, none⟩ v2).setCell ⟨q, 0, none⟩ v) :=
  ((h.setCell (p := ⟨r, 0, none⟩) h1 _).setCell (p := ⟨r, 1, none⟩) h1 _).setCell (p := ⟨q, 0, none⟩) h2 _
theorem tsw_b {N : Nat} {w0 w : World} {r q : Nat} {v1 v2 v : Value} (h1 : N ≤ r) (h2 : N ≤ q) (h : Below N w0 w) : Below N w0 (((w.setCell ⟨q, 0, none⟩ v).setCell ⟨r, 0, none⟩ v1).setCell ⟨r, 1, none⟩ v2) :=
  ((h.setCell (p := ⟨q, 0, none⟩) h2 _).setCell (p := ⟨r, 0, none⟩) h1 _).setCell (p := ⟨r, 1, none⟩) h1 _
set_option maxRecDepth 100000 in
set_option maxHeartbeats 3200000 in
theorem combined_err (K : Nat) (an ad bn bd r1 r2 r3 : ByteArray) (c1 c2 c3 c12 c : Int) (hc12 : (if c1 = 0 then c2 else c1) = c12) (hc : (if c12 = 0 then c3 else c12) = c) (h0 : ¬ c = 0) (w : World) (hv : VarT w)
    (H1 : ∀ W, VarT W → Calls Tryz.prog 106 #[.string an, .string bd] W (StE r1 c1 W))
    (H2 : ∀ W, VarT W → Calls Tryz.prog 106 #[.string bn, .string ad] W (StE r2 c2 W))
    (H3 : ∀ W, VarT W → Calls Tryz.prog 106 #[.string ad, .string bd] W (StE r3 c3 W))
    : Calls Tryz.prog 103 #[.agg #[.string an, .string ad], .agg #[.string bn, .string bd], .func (.func K) #[] #[]] w (PrsR ⟨#[]⟩ ⟨#[]⟩ c w) := by
  have J1 := Lib.hid H1
  have J2 := Lib.hid H2
  have J3 := Lib.hid H3
  have HC12 := Lib.hid hc12
  have HC := Lib.hid hc
  have hz : (c == 0) = false := by rw [beq_eq_false_iff_ne]; exact h0
  clear H1 H2 H3 hc12 hc h0
  have HV := Lib.hid hv
  have HR := Lib.hid (fun (w5 : World) => @rows5 w (.string an) (.string ad) (.string bn) (.string bd) 87 22 92 hv w5)
  clear hv
  go_enter Tryz.func103, Tryz.ntmps103
  go_wp2_with (go_at_call 59; refine (multiplier_any _ _).mono ?_; rintro e w5 ⟨rfl, h5⟩; obtain ⟨C0, k1, k2, k3, k4, k5⟩ := HR.out w5 h5; clear h5)
  have hC0 := C0.drew
  clear C0
  have hk5 : w5.drew.heap[w.heap.size + 1 + 1]? = some (.cells #[.string ⟨#[]⟩, .string ⟨#[]⟩] 87 (0, 0)) := k5
  clear k5
  go_region_held3 (fun w' => w'.cell? ⟨w.heap.size, 0, none⟩ = some (.string an) ∧ w'.cell? ⟨w.heap.size, 1, none⟩ = some (.string ad) ∧ w'.cell? ⟨w.heap.size + 1, 0, none⟩ = some (.string bn) ∧ w'.cell? ⟨w.heap.size + 1, 1, none⟩ = some (.string bd))
    (((try go_split_ands); (and_intros) <;> first | assumption | exact tim_far (by assumption) (by omega) b3 | exact tim_far (by assumption) (by omega) b2 | exact tim_far (by assumption) (by omega) b1 | (go_keep; done)))
    (first
      | (go_split_ands; go_at_call 105; (with_reducible refine (hC0.call _ _ r1 c1 c1 (if_pos rfl) J1.out).mono ?_); rintro e w6 ⟨rfl, b1⟩; have hC1 := hC0.after (by omega) (by omega) HV.out b1; have hk6 := tim_row hk5 (by omega) b1)
      | (go_split_ands; go_at_call 105; (with_reducible refine (hC1.call _ _ r2 c2 c12 HC12.out J2.out).mono ?_); rintro e w7 ⟨rfl, b2⟩; have hC2 := hC1.after (by omega) (by omega) HV.out b2; have hk7 := tim_row hk6 (by omega) b2)
      | (go_split_ands; go_at_call 105; (with_reducible refine (hC2.call _ _ r3 c3 c HC.out J3.out).mono ?_); rintro e w8 ⟨rfl, b3⟩; have hC3 := hC2.after (by omega) (by omega) HV.out b3; have hk8 := tim_row hk7 (by omega) b3))
  have hq := hC3.hq
  have hqf := hC3.hf
  have HC3 := Lib.hid hC3
  have HK := Lib.hid hk8
  obtain ⟨z1, z2, z3, z4⟩ := row2 hk8
  clear hC0 hC1 hC2 hC3 hk5 hk6 hk7 hk8 b1 b2 b3 k1 k2 k3 k4
  go_wp2
  go_region
  all_goals
    go_wp2
    refine bodyPost_ret (v := .tuple #[.agg #[.string ⟨#[]⟩, .string ⟨#[]⟩], .int .i64 c]) (results_cell_cell rfl _ _ (w.heap.size + 1 + 1) 87 #[.string ⟨#[]⟩, .string ⟨#[]⟩] (0, 0) _ _ (w.heap.size + 1 + 1 + 1) (.int .i64 c) rfl rfl ((by first | exact tsc_a (by omega) HK.out | exact tsc_b (by omega) HK.out)) ((by first | exact tsq_a (by omega) hq | exact tsq_b (by omega) hq)) Tryz.underlying87 (by kernel_rfl) (by kernel_rfl) Tryz.underlying22 rfl) rfl ⟨rfl, ?_⟩
    first | exact tsw_a (by omega) (by omega) (Below.drew HC3.out.bl) | exact tsw_b (by omega) (by omega) (Below.drew HC3.out.bl)
set_option maxRecDepth 100000 in
set_option maxHeartbeats 3200000 in
theorem combined_add_jerr (an ad bn bd r1 r2 r3 r4 : ByteArray) (c : Int) (h0 : ¬ c = 0) (w : World) (hv : VarT w)
    (H1 : ∀ W, VarT W → Calls Tryz.prog 106 #[.string an, .string bd] W (StE r1 0 W))
    (H2 : ∀ W, VarT W → Calls Tryz.prog 106 #[.string bn, .string ad] W (StE r2 0 W))
    (H3 : ∀ W, VarT W → Calls Tryz.prog 106 #[.string ad, .string bd] W (StE r3 0 W))
    (H4 : ∀ W, VarT W → Calls Tryz.prog 123 #[.string r1, .string r2] W (StE r4 c W))
    : Calls Tryz.prog 103 #[.agg #[.string an, .string ad], .agg #[.string bn, .string bd], .func (.func 123) #[] #[]] w (PrsR ⟨#[]⟩ ⟨#[]⟩ c w) := by
  have J1 := Lib.hid H1
  have J2 := Lib.hid H2
  have J3 := Lib.hid H3
  have J4 := Lib.hid H4
  have hz : (c == 0) = false := by rw [beq_eq_false_iff_ne]; exact h0
  clear H1 H2 H3 H4 h0
  have HV := Lib.hid hv
  have HR := Lib.hid (fun (w5 : World) => @rows5 w (.string an) (.string ad) (.string bn) (.string bd) 87 22 92 hv w5)
  clear hv
  go_enter Tryz.func103, Tryz.ntmps103
  go_wp2_with (go_at_call 59; refine (multiplier_any _ _).mono ?_; rintro e w5 ⟨rfl, h5⟩; obtain ⟨C0, k1, k2, k3, k4, k5⟩ := HR.out w5 h5; clear h5)
  have hC0 := C0.drew
  clear C0
  have hk5 : w5.drew.heap[w.heap.size + 1 + 1]? = some (.cells #[.string ⟨#[]⟩, .string ⟨#[]⟩] 87 (0, 0)) := k5
  clear k5
  go_region_held3 (fun w' => w'.cell? ⟨w.heap.size, 0, none⟩ = some (.string an) ∧ w'.cell? ⟨w.heap.size, 1, none⟩ = some (.string ad) ∧ w'.cell? ⟨w.heap.size + 1, 0, none⟩ = some (.string bn) ∧ w'.cell? ⟨w.heap.size + 1, 1, none⟩ = some (.string bd))
    (((try go_split_ands); (and_intros) <;> first | assumption | exact tim_far (by assumption) (by omega) b3 | exact tim_far (by assumption) (by omega) b2 | exact tim_far (by assumption) (by omega) b1 | (go_keep; done)))
    (first
      | (go_split_ands; go_at_call 105; (with_reducible refine (hC0.call _ _ r1 0 0 rfl J1.out).mono ?_); rintro e w6 ⟨rfl, b1⟩; have hC1 := hC0.after (by omega) (by omega) HV.out b1; have hk6 := tim_row hk5 (by omega) b1)
      | (go_split_ands; go_at_call 105; (with_reducible refine (hC1.call _ _ r2 0 0 rfl J2.out).mono ?_); rintro e w7 ⟨rfl, b2⟩; have hC2 := hC1.after (by omega) (by omega) HV.out b2; have hk7 := tim_row hk6 (by omega) b2)
      | (go_split_ands; go_at_call 105; (with_reducible refine (hC2.call _ _ r3 0 0 rfl J3.out).mono ?_); rintro e w8 ⟨rfl, b3⟩; have hC3 := hC2.after (by omega) (by omega) HV.out b3; have hk8 := tim_row hk7 (by omega) b3))
  have hq := hC3.hq
  have hqf := hC3.hf
  have HC3 := Lib.hid hC3
  have HK := Lib.hid hk8
  obtain ⟨z1, z2, z3, z4⟩ := row2 hk8
  clear hC0 hC1 hC2 hC3 hk5 hk6 hk7 hk8 b1 b2 b3 k1 k2 k3 k4
  go_wp2_with ((go_at_call 123; refine (J4.out _ HC3.out.v).mono ?_; rintro e w9 ⟨rfl, b⟩; have D9 := Lib.hid (bt HC3.out.bl b); have hqf9 := (b.frozen (p := ⟨w.heap.size + 1 + 1 + 1, 0, none⟩) (World.block_lt_of_cell? _ _ hq)).trans hqf; have hq9 := (b.cell (p := ⟨w.heap.size + 1 + 1 + 1, 0, none⟩) (World.block_lt_of_cell? _ _ hq)).trans hq; have R := (b.block _ (lt_of_block HK.out)).trans HK.out; have HR9 := Lib.hid R; obtain ⟨k1, k2, k3, k4⟩ := row2 R; clear R b hq hqf z1 z2 z3 z4))
  go_region
  all_goals
    go_wp2
    refine bodyPost_ret (v := .tuple #[.agg #[.string ⟨#[]⟩, .string ⟨#[]⟩], .int .i64 c]) (results_cell_cell rfl _ _ (w.heap.size + 1 + 1) 87 #[.string ⟨#[]⟩, .string ⟨#[]⟩] (0, 0) _ _ (w.heap.size + 1 + 1 + 1) (.int .i64 c) rfl rfl ((by first | exact tsc_a (by omega) (rowset (by omega) HR9.out) | exact tsc_b (by omega) (rowset (by omega) HR9.out))) ((by first | exact tsq_a (by omega) (World.cell?_setCell_same _ _ _ hq9) | exact tsq_b (by omega) (World.cell?_setCell_same _ _ _ hq9))) Tryz.underlying87 (by kernel_rfl) (by kernel_rfl) Tryz.underlying22 rfl) rfl ⟨rfl, ?_⟩
    first | exact tsw_a (by omega) (by omega) (Below.drew (D9.out.setCell (p := ⟨w.heap.size + 1 + 1 + 1, 0, none⟩) (by show w.heap.size ≤ w.heap.size + 1 + 1 + 1; omega) _)) | exact tsw_b (by omega) (by omega) (Below.drew (D9.out.setCell (p := ⟨w.heap.size + 1 + 1 + 1, 0, none⟩) (by show w.heap.size ≤ w.heap.size + 1 + 1 + 1; omega) _))
set_option maxRecDepth 100000 in
set_option maxHeartbeats 3200000 in
theorem combined_add_ok (an ad bn bd r1 r2 r3 r4 N D : ByteArray) (w : World) (hv : VarT w)
    (H1 : ∀ W, VarT W → Calls Tryz.prog 106 #[.string an, .string bd] W (StE r1 0 W))
    (H2 : ∀ W, VarT W → Calls Tryz.prog 106 #[.string bn, .string ad] W (StE r2 0 W))
    (H3 : ∀ W, VarT W → Calls Tryz.prog 106 #[.string ad, .string bd] W (StE r3 0 W))
    (H4 : ∀ W, VarT W → Calls Tryz.prog 123 #[.string r1, .string r2] W (StE r4 0 W))
    (H5 : ∀ W, VarT W → Calls Tryz.prog 114 #[.string r4, .string r3] W (FraR N D W))
    : Calls Tryz.prog 103 #[.agg #[.string an, .string ad], .agg #[.string bn, .string bd], .func (.func 123) #[] #[]] w (PrsR N D 0 w) := by
  have J1 := Lib.hid H1
  have J2 := Lib.hid H2
  have J3 := Lib.hid H3
  have J4 := Lib.hid H4
  have J5 := Lib.hid H5
  clear H1 H2 H3 H4 H5
  have HV := Lib.hid hv
  have HR := Lib.hid (fun (w5 : World) => @rows5 w (.string an) (.string ad) (.string bn) (.string bd) 87 22 92 hv w5)
  clear hv
  go_enter Tryz.func103, Tryz.ntmps103
  go_wp2_with (go_at_call 59; refine (multiplier_any _ _).mono ?_; rintro e w5 ⟨rfl, h5⟩; obtain ⟨C0, k1, k2, k3, k4, k5⟩ := HR.out w5 h5; clear h5)
  have hC0 := C0.drew
  clear C0
  have hk5 : w5.drew.heap[w.heap.size + 1 + 1]? = some (.cells #[.string ⟨#[]⟩, .string ⟨#[]⟩] 87 (0, 0)) := k5
  clear k5
  go_region_held3 (fun w' => w'.cell? ⟨w.heap.size, 0, none⟩ = some (.string an) ∧ w'.cell? ⟨w.heap.size, 1, none⟩ = some (.string ad) ∧ w'.cell? ⟨w.heap.size + 1, 0, none⟩ = some (.string bn) ∧ w'.cell? ⟨w.heap.size + 1, 1, none⟩ = some (.string bd))
    (((try go_split_ands); (and_intros) <;> first | assumption | exact tim_far (by assumption) (by omega) b3 | exact tim_far (by assumption) (by omega) b2 | exact tim_far (by assumption) (by omega) b1 | (go_keep; done)))
    (first
      | (go_split_ands; go_at_call 105; (with_reducible refine (hC0.call _ _ r1 0 0 rfl J1.out).mono ?_); rintro e w6 ⟨rfl, b1⟩; have hC1 := hC0.after (by omega) (by omega) HV.out b1; have hk6 := tim_row hk5 (by omega) b1)
      | (go_split_ands; go_at_call 105; (with_reducible refine (hC1.call _ _ r2 0 0 rfl J2.out).mono ?_); rintro e w7 ⟨rfl, b2⟩; have hC2 := hC1.after (by omega) (by omega) HV.out b2; have hk7 := tim_row hk6 (by omega) b2)
      | (go_split_ands; go_at_call 105; (with_reducible refine (hC2.call _ _ r3 0 0 rfl J3.out).mono ?_); rintro e w8 ⟨rfl, b3⟩; have hC3 := hC2.after (by omega) (by omega) HV.out b3; have hk8 := tim_row hk7 (by omega) b3))
  have hq := hC3.hq
  have hqf := hC3.hf
  have HC3 := Lib.hid hC3
  have HK := Lib.hid hk8
  obtain ⟨z1, z2, z3, z4⟩ := row2 hk8
  clear hC0 hC1 hC2 hC3 hk5 hk6 hk7 hk8 b1 b2 b3 k1 k2 k3 k4
  go_wp2_with (first
    | (go_at_call 123; refine (J4.out _ HC3.out.v).mono ?_; rintro e w9 ⟨rfl, b⟩; have D9 := Lib.hid (bt HC3.out.bl b); have hqf9 := (b.frozen (p := ⟨w.heap.size + 1 + 1 + 1, 0, none⟩) (World.block_lt_of_cell? _ _ hq)).trans hqf; have hq9 := (b.cell (p := ⟨w.heap.size + 1 + 1 + 1, 0, none⟩) (World.block_lt_of_cell? _ _ hq)).trans hq; have R := (b.block _ (lt_of_block HK.out)).trans HK.out; have HR9 := Lib.hid R; obtain ⟨k1, k2, k3, k4⟩ := row2 R; clear R b hq hqf z1 z2 z3 z4)
    | (go_at_call 114; refine (J5.out _ (HV.out.below (D9.out.setCell (p := ⟨w.heap.size + 1 + 1 + 1, 0, none⟩) (by show w.heap.size ≤ w.heap.size + 1 + 1 + 1; omega) _))).mono ?_; rintro e w10 ⟨rfl, b⟩
       have D10 := Lib.hid (bt (D9.out.setCell (p := ⟨w.heap.size + 1 + 1 + 1, 0, none⟩) (by show w.heap.size ≤ w.heap.size + 1 + 1 + 1; omega) _) b)
       have RS := rowset (v := .int .i64 0) (q := w.heap.size + 1 + 1 + 1) (by omega) HR9.out
       have CS := World.cell?_setCell_same _ _ (.int .i64 0) hq9
       have hqfA := (b.frozen (p := ⟨w.heap.size + 1 + 1 + 1, 0, none⟩) (World.block_lt_of_cell? _ _ CS)).trans (tim_fz hqf9)
       have hqA := (b.cell (p := ⟨w.heap.size + 1 + 1 + 1, 0, none⟩) (World.block_lt_of_cell? _ _ CS)).trans CS
       have R := (b.block _ (lt_of_block RS)).trans RS
       have HRA := Lib.hid R
       obtain ⟨m1, m2, m3, m4⟩ := row2 R
       clear R b RS CS hq9 hqf9 k1 k2 k3 k4))
  refine bodyPost_ret (v := .tuple #[.agg #[.string N, .string D], .int .i64 0]) (results_cell_cell rfl _ _ (w.heap.size + 1 + 1) 87 #[.string N, .string D] (0, 0) _ _ (w.heap.size + 1 + 1 + 1) (.int .i64 0) rfl rfl ((by first | exact tsc_a (by omega) HRA.out | exact tsc_b (by omega) HRA.out)) ((by first | exact tsq_a (by omega) hqA | exact tsq_b (by omega) hqA)) Tryz.underlying87 (by kernel_rfl) (by kernel_rfl) Tryz.underlying22 rfl) rfl ⟨rfl, ?_⟩
  first | exact tsw_a (by omega) (by omega) (D10.out) | exact tsw_b (by omega) (by omega) (D10.out)
set_option maxRecDepth 100000 in
set_option maxHeartbeats 3200000 in
theorem combined_sub_jerr (an ad bn bd r1 r2 r3 r4 : ByteArray) (c : Int) (h0 : ¬ c = 0) (w : World) (hv : VarT w)
    (H1 : ∀ W, VarT W → Calls Tryz.prog 106 #[.string an, .string bd] W (StE r1 0 W))
    (H2 : ∀ W, VarT W → Calls Tryz.prog 106 #[.string bn, .string ad] W (StE r2 0 W))
    (H3 : ∀ W, VarT W → Calls Tryz.prog 106 #[.string ad, .string bd] W (StE r3 0 W))
    (H4 : ∀ W, VarT W → Calls Tryz.prog 104 #[.string r1, .string r2] W (StE r4 c W))
    : Calls Tryz.prog 103 #[.agg #[.string an, .string ad], .agg #[.string bn, .string bd], .func (.func 104) #[] #[]] w (PrsR ⟨#[]⟩ ⟨#[]⟩ c w) := by
  have J1 := Lib.hid H1
  have J2 := Lib.hid H2
  have J3 := Lib.hid H3
  have J4 := Lib.hid H4
  have hz : (c == 0) = false := by rw [beq_eq_false_iff_ne]; exact h0
  clear H1 H2 H3 H4 h0
  have HV := Lib.hid hv
  have HR := Lib.hid (fun (w5 : World) => @rows5 w (.string an) (.string ad) (.string bn) (.string bd) 87 22 92 hv w5)
  clear hv
  go_enter Tryz.func103, Tryz.ntmps103
  go_wp2_with (go_at_call 59; refine (multiplier_any _ _).mono ?_; rintro e w5 ⟨rfl, h5⟩; obtain ⟨C0, k1, k2, k3, k4, k5⟩ := HR.out w5 h5; clear h5)
  have hC0 := C0.drew
  clear C0
  have hk5 : w5.drew.heap[w.heap.size + 1 + 1]? = some (.cells #[.string ⟨#[]⟩, .string ⟨#[]⟩] 87 (0, 0)) := k5
  clear k5
  go_region_held3 (fun w' => w'.cell? ⟨w.heap.size, 0, none⟩ = some (.string an) ∧ w'.cell? ⟨w.heap.size, 1, none⟩ = some (.string ad) ∧ w'.cell? ⟨w.heap.size + 1, 0, none⟩ = some (.string bn) ∧ w'.cell? ⟨w.heap.size + 1, 1, none⟩ = some (.string bd))
    (((try go_split_ands); (and_intros) <;> first | assumption | exact tim_far (by assumption) (by omega) b3 | exact tim_far (by assumption) (by omega) b2 | exact tim_far (by assumption) (by omega) b1 | (go_keep; done)))
    (first
      | (go_split_ands; go_at_call 105; (with_reducible refine (hC0.call _ _ r1 0 0 rfl J1.out).mono ?_); rintro e w6 ⟨rfl, b1⟩; have hC1 := hC0.after (by omega) (by omega) HV.out b1; have hk6 := tim_row hk5 (by omega) b1)
      | (go_split_ands; go_at_call 105; (with_reducible refine (hC1.call _ _ r2 0 0 rfl J2.out).mono ?_); rintro e w7 ⟨rfl, b2⟩; have hC2 := hC1.after (by omega) (by omega) HV.out b2; have hk7 := tim_row hk6 (by omega) b2)
      | (go_split_ands; go_at_call 105; (with_reducible refine (hC2.call _ _ r3 0 0 rfl J3.out).mono ?_); rintro e w8 ⟨rfl, b3⟩; have hC3 := hC2.after (by omega) (by omega) HV.out b3; have hk8 := tim_row hk7 (by omega) b3))
  have hq := hC3.hq
  have hqf := hC3.hf
  have HC3 := Lib.hid hC3
  have HK := Lib.hid hk8
  obtain ⟨z1, z2, z3, z4⟩ := row2 hk8
  clear hC0 hC1 hC2 hC3 hk5 hk6 hk7 hk8 b1 b2 b3 k1 k2 k3 k4
  go_wp2_with ((go_at_call 104; refine (J4.out _ HC3.out.v).mono ?_; rintro e w9 ⟨rfl, b⟩; have D9 := Lib.hid (bt HC3.out.bl b); have hqf9 := (b.frozen (p := ⟨w.heap.size + 1 + 1 + 1, 0, none⟩) (World.block_lt_of_cell? _ _ hq)).trans hqf; have hq9 := (b.cell (p := ⟨w.heap.size + 1 + 1 + 1, 0, none⟩) (World.block_lt_of_cell? _ _ hq)).trans hq; have R := (b.block _ (lt_of_block HK.out)).trans HK.out; have HR9 := Lib.hid R; obtain ⟨k1, k2, k3, k4⟩ := row2 R; clear R b hq hqf z1 z2 z3 z4))
  go_region
  all_goals
    go_wp2
    refine bodyPost_ret (v := .tuple #[.agg #[.string ⟨#[]⟩, .string ⟨#[]⟩], .int .i64 c]) (results_cell_cell rfl _ _ (w.heap.size + 1 + 1) 87 #[.string ⟨#[]⟩, .string ⟨#[]⟩] (0, 0) _ _ (w.heap.size + 1 + 1 + 1) (.int .i64 c) rfl rfl ((by first | exact tsc_a (by omega) (rowset (by omega) HR9.out) | exact tsc_b (by omega) (rowset (by omega) HR9.out))) ((by first | exact tsq_a (by omega) (World.cell?_setCell_same _ _ _ hq9) | exact tsq_b (by omega) (World.cell?_setCell_same _ _ _ hq9))) Tryz.underlying87 (by kernel_rfl) (by kernel_rfl) Tryz.underlying22 rfl) rfl ⟨rfl, ?_⟩
    first | exact tsw_a (by omega) (by omega) (Below.drew (D9.out.setCell (p := ⟨w.heap.size + 1 + 1 + 1, 0, none⟩) (by show w.heap.size ≤ w.heap.size + 1 + 1 + 1; omega) _)) | exact tsw_b (by omega) (by omega) (Below.drew (D9.out.setCell (p := ⟨w.heap.size + 1 + 1 + 1, 0, none⟩) (by show w.heap.size ≤ w.heap.size + 1 + 1 + 1; omega) _))
set_option maxRecDepth 100000 in
set_option maxHeartbeats 3200000 in
theorem combined_sub_ok (an ad bn bd r1 r2 r3 r4 N D : ByteArray) (w : World) (hv : VarT w)
    (H1 : ∀ W, VarT W → Calls Tryz.prog 106 #[.string an, .string bd] W (StE r1 0 W))
    (H2 : ∀ W, VarT W → Calls Tryz.prog 106 #[.string bn, .string ad] W (StE r2 0 W))
    (H3 : ∀ W, VarT W → Calls Tryz.prog 106 #[.string ad, .string bd] W (StE r3 0 W))
    (H4 : ∀ W, VarT W → Calls Tryz.prog 104 #[.string r1, .string r2] W (StE r4 0 W))
    (H5 : ∀ W, VarT W → Calls Tryz.prog 114 #[.string r4, .string r3] W (FraR N D W))
    : Calls Tryz.prog 103 #[.agg #[.string an, .string ad], .agg #[.string bn, .string bd], .func (.func 104) #[] #[]] w (PrsR N D 0 w) := by
  have J1 := Lib.hid H1
  have J2 := Lib.hid H2
  have J3 := Lib.hid H3
  have J4 := Lib.hid H4
  have J5 := Lib.hid H5
  clear H1 H2 H3 H4 H5
  have HV := Lib.hid hv
  have HR := Lib.hid (fun (w5 : World) => @rows5 w (.string an) (.string ad) (.string bn) (.string bd) 87 22 92 hv w5)
  clear hv
  go_enter Tryz.func103, Tryz.ntmps103
  go_wp2_with (go_at_call 59; refine (multiplier_any _ _).mono ?_; rintro e w5 ⟨rfl, h5⟩; obtain ⟨C0, k1, k2, k3, k4, k5⟩ := HR.out w5 h5; clear h5)
  have hC0 := C0.drew
  clear C0
  have hk5 : w5.drew.heap[w.heap.size + 1 + 1]? = some (.cells #[.string ⟨#[]⟩, .string ⟨#[]⟩] 87 (0, 0)) := k5
  clear k5
  go_region_held3 (fun w' => w'.cell? ⟨w.heap.size, 0, none⟩ = some (.string an) ∧ w'.cell? ⟨w.heap.size, 1, none⟩ = some (.string ad) ∧ w'.cell? ⟨w.heap.size + 1, 0, none⟩ = some (.string bn) ∧ w'.cell? ⟨w.heap.size + 1, 1, none⟩ = some (.string bd))
    (((try go_split_ands); (and_intros) <;> first | assumption | exact tim_far (by assumption) (by omega) b3 | exact tim_far (by assumption) (by omega) b2 | exact tim_far (by assumption) (by omega) b1 | (go_keep; done)))
    (first
      | (go_split_ands; go_at_call 105; (with_reducible refine (hC0.call _ _ r1 0 0 rfl J1.out).mono ?_); rintro e w6 ⟨rfl, b1⟩; have hC1 := hC0.after (by omega) (by omega) HV.out b1; have hk6 := tim_row hk5 (by omega) b1)
      | (go_split_ands; go_at_call 105; (with_reducible refine (hC1.call _ _ r2 0 0 rfl J2.out).mono ?_); rintro e w7 ⟨rfl, b2⟩; have hC2 := hC1.after (by omega) (by omega) HV.out b2; have hk7 := tim_row hk6 (by omega) b2)
      | (go_split_ands; go_at_call 105; (with_reducible refine (hC2.call _ _ r3 0 0 rfl J3.out).mono ?_); rintro e w8 ⟨rfl, b3⟩; have hC3 := hC2.after (by omega) (by omega) HV.out b3; have hk8 := tim_row hk7 (by omega) b3))
  have hq := hC3.hq
  have hqf := hC3.hf
  have HC3 := Lib.hid hC3
  have HK := Lib.hid hk8
  obtain ⟨z1, z2, z3, z4⟩ := row2 hk8
  clear hC0 hC1 hC2 hC3 hk5 hk6 hk7 hk8 b1 b2 b3 k1 k2 k3 k4
  go_wp2_with (first
    | (go_at_call 104; refine (J4.out _ HC3.out.v).mono ?_; rintro e w9 ⟨rfl, b⟩; have D9 := Lib.hid (bt HC3.out.bl b); have hqf9 := (b.frozen (p := ⟨w.heap.size + 1 + 1 + 1, 0, none⟩) (World.block_lt_of_cell? _ _ hq)).trans hqf; have hq9 := (b.cell (p := ⟨w.heap.size + 1 + 1 + 1, 0, none⟩) (World.block_lt_of_cell? _ _ hq)).trans hq; have R := (b.block _ (lt_of_block HK.out)).trans HK.out; have HR9 := Lib.hid R; obtain ⟨k1, k2, k3, k4⟩ := row2 R; clear R b hq hqf z1 z2 z3 z4)
    | (go_at_call 114; refine (J5.out _ (HV.out.below (D9.out.setCell (p := ⟨w.heap.size + 1 + 1 + 1, 0, none⟩) (by show w.heap.size ≤ w.heap.size + 1 + 1 + 1; omega) _))).mono ?_; rintro e w10 ⟨rfl, b⟩
       have D10 := Lib.hid (bt (D9.out.setCell (p := ⟨w.heap.size + 1 + 1 + 1, 0, none⟩) (by show w.heap.size ≤ w.heap.size + 1 + 1 + 1; omega) _) b)
       have RS := rowset (v := .int .i64 0) (q := w.heap.size + 1 + 1 + 1) (by omega) HR9.out
       have CS := World.cell?_setCell_same _ _ (.int .i64 0) hq9
       have hqfA := (b.frozen (p := ⟨w.heap.size + 1 + 1 + 1, 0, none⟩) (World.block_lt_of_cell? _ _ CS)).trans (tim_fz hqf9)
       have hqA := (b.cell (p := ⟨w.heap.size + 1 + 1 + 1, 0, none⟩) (World.block_lt_of_cell? _ _ CS)).trans CS
       have R := (b.block _ (lt_of_block RS)).trans RS
       have HRA := Lib.hid R
       obtain ⟨m1, m2, m3, m4⟩ := row2 R
       clear R b RS CS hq9 hqf9 k1 k2 k3 k4))
  refine bodyPost_ret (v := .tuple #[.agg #[.string N, .string D], .int .i64 0]) (results_cell_cell rfl _ _ (w.heap.size + 1 + 1) 87 #[.string N, .string D] (0, 0) _ _ (w.heap.size + 1 + 1 + 1) (.int .i64 0) rfl rfl ((by first | exact tsc_a (by omega) HRA.out | exact tsc_b (by omega) HRA.out)) ((by first | exact tsq_a (by omega) hqA | exact tsq_b (by omega) hqA)) Tryz.underlying87 (by kernel_rfl) (by kernel_rfl) Tryz.underlying22 rfl) rfl ⟨rfl, ?_⟩
  first | exact tsw_a (by omega) (by omega) (D10.out) | exact tsw_b (by omega) (by omega) (D10.out)
end Go.Proofs.YtalnfbgaiegicaaGreatDoor

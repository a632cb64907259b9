/- Joined: RatW, RatX, RatY, RatZ. -/
import Derived.Test.YtalnfbgaiegicaaGreatDoorRatU
/- The walks of layer 2: inverse, quotient. -/
namespace Go.Proofs.YtalnfbgaiegicaaGreatDoor
open Go Go.RowKit

set_option maxRecDepth 100000 in
set_option maxHeartbeats 1600000 in
theorem inverse_pos (n d : ByteArray) (hn : ngB n.data.toList = false) (w : World) :
    Calls Tryz.prog 102 #[.agg #[.string n, .string d]] w (FraR d n w) := by
  have HN := Lib.hid (fun W => negative_any' n false hn W)
  clear hn
  have HB := Lib.hid (fun a b => ((Below.refl _ w).alloc (Nat.le_refl _) (.cells #[.string n, .string d] 87)).alloc (by simp) (.cells #[.string a, .string b] 87))
  have HR := fun (a b : ByteArray) => heap_alloc_new (w.alloc (.cells #[.string n, .string d] 87)) (.cells #[.string a, .string b] 87)
  rw [show (w.alloc (.cells #[.string n, .string d] 87)).heap.size = w.heap.size + 1 by simp] at HR
  have HR := Lib.hid HR
  go_enter Tryz.func102, Tryz.ntmps102
  go_wp2_with (go_at_call 121; refine (HN.out _).mono ?_; rintro e w2 ⟨rfl, rfl⟩)
  refine bodyPost_ret (v := .agg #[.string d, .string n]) (results_cell_row rfl _ _ (w.heap.size + 1) 87 #[.string d, .string n] (0, 0) _ rfl (HR.out _ _) Tryz.underlying87 (by kernel_rfl) (by kernel_rfl)) rfl ⟨rfl, ?_⟩
  exact HB.out _ _
set_option maxRecDepth 100000 in
set_option maxHeartbeats 1600000 in
theorem inverse_neg (n d m e : ByteArray) (hn : ngB n.data.toList = true) (h0 : 1 ≤ n.size) (hd : d.size ≤ 1073741824) (hm : (⟨#[45]⟩ : ByteArray) ++ d = m) (he : n.extract 1 n.size = e) (w : World) :
    Calls Tryz.prog 102 #[.agg #[.string n, .string d]] w (FraR m e w) := by
  have HN := Lib.hid (fun W => negative_any' n true hn W)
  have h1 : ¬ 9223372036854775807 < 1 + d.size := by omega
  clear hn hd
  have HB := Lib.hid (fun a b => ((Below.refl _ w).alloc (Nat.le_refl _) (.cells #[.string n, .string d] 87)).alloc (by simp) (.cells #[.string a, .string b] 87))
  have HR := fun (a b : ByteArray) => heap_alloc_new (w.alloc (.cells #[.string n, .string d] 87)) (.cells #[.string a, .string b] 87)
  rw [show (w.alloc (.cells #[.string n, .string d] 87)).heap.size = w.heap.size + 1 by simp] at HR
  have HR := Lib.hid HR
  go_enter Tryz.func102, Tryz.ntmps102
  go_wp2_with (go_at_call 121; refine (HN.out _).mono ?_; rintro e w2 ⟨rfl, rfl⟩)
  go_region
  go_wp2
  refine bodyPost_ret (v := .agg #[.string m, .string e]) (results_cell_row rfl _ _ (w.heap.size + 1) 87 #[.string m, .string e] (0, 0) _ rfl (HR.out _ _) Tryz.underlying87 (by kernel_rfl) (by kernel_rfl)) rfl ⟨rfl, ?_⟩
  exact Below.drew (HB.out _ _)
/-- Three blocks: both arguments, the result. -/
theorem rows3 (w : World) (a b c d : Value) (t : TypeId) {w3 : World}
    (h3 : (((w.alloc (.cells #[a, b] t (0, 0))).alloc (.cells #[c, d] t (0, 0))).alloc (.cells #[.string ⟨#[]⟩, .string ⟨#[]⟩] t (0, 0))) = w3) :
    Below w.heap.size w w3 ∧ w.heap.size + 3 ≤ w3.heap.size ∧
    w3.cell? ⟨w.heap.size, 0, none⟩ = some a ∧ w3.cell? ⟨w.heap.size, 1, none⟩ = some b ∧ w3.cell? ⟨w.heap.size + 1, 0, none⟩ = some c ∧ w3.cell? ⟨w.heap.size + 1, 1, none⟩ = some d ∧
    w3.heap[w.heap.size + 1 + 1]? = some (.cells #[.string ⟨#[]⟩, .string ⟨#[]⟩] t (0, 0)) := by
  have hh : w3.heap = (((w.heap.push (.cells #[a, b] t (0, 0))).push (.cells #[c, d] t (0, 0))).push (.cells #[.string ⟨#[]⟩, .string ⟨#[]⟩] t (0, 0))) := by subst h3; rfl
  have B : Below w.heap.size w w3 := by
    subst h3
    exact (((Below.refl _ w).alloc (Nat.le_refl _) _).alloc (by simp) _).alloc (by simp; omega) _
  clear h3
  have g0 : w3.heap[w.heap.size]? = some (.cells #[a, b] t (0, 0)) := by
    rw [hh]; simp only [Array.getElem?_push, Array.size_push]
    rw [if_neg (by omega), if_neg (by omega), if_pos trivial]
  have g1 : w3.heap[w.heap.size + 1]? = some (.cells #[c, d] t (0, 0)) := by
    rw [hh]; simp only [Array.getElem?_push, Array.size_push]
    rw [if_neg (by omega), if_pos trivial]
  have g2 : w3.heap[w.heap.size + 1 + 1]? = some (.cells #[.string ⟨#[]⟩, .string ⟨#[]⟩] t (0, 0)) := by
    rw [hh]; simp only [Array.getElem?_push, Array.size_push]
    rw [if_pos trivial]
  have hs : w.heap.size + 3 ≤ w3.heap.size := by rw [hh]; simp
  clear hh
  obtain ⟨k1, k2, _, _⟩ := row2 g0
  obtain ⟨k3, k4, _, _⟩ := row2 g1
  exact ⟨B, hs, k1, k2, k3, k4, g2⟩

set_option maxRecDepth 100000 in
set_option maxHeartbeats 3200000 in
theorem quotient_walk (an ad bn bd im id' N D : ByteArray) (c : Int) (hb : (bn.toList == [48]) = false) (w : World) (hv : VarT w)
    (HI : ∀ W, Calls Tryz.prog 102 #[.agg #[.string bn, .string bd]] W (FraR im id' W))
    (HP : ∀ W, VarT W → Calls Tryz.prog 64 #[.agg #[.string an, .string ad], .agg #[.string im, .string id']] W (PrsR N D c W)) :
    Calls Tryz.prog 56 #[.agg #[.string an, .string ad], .agg #[.string bn, .string bd]] w (PrsR N D c w) := by
  have JI := Lib.hid HI
  have JP := Lib.hid HP
  have HV := Lib.hid hv
  have HR := Lib.hid (fun (w3 : World) => @rows3 w (.string an) (.string ad) (.string bn) (.string bd) 87 w3)
  clear HI HP hv
  go_enter Tryz.func56, Tryz.ntmps56
  go_wp2
  obtain ⟨B3, s3, k1, k2, k3, k4, k5⟩ := HR.out _ rfl
  generalize (((w.alloc (.cells #[.string an, .string ad] 87 (0, 0))).alloc (.cells #[.string bn, .string bd] 87 (0, 0))).alloc (.cells #[.string ⟨#[]⟩, .string ⟨#[]⟩] 87 (0, 0))) = w3 at *
  obtain ⟨z1, z2, z3, z4⟩ := row2 k5
  have z5 : (w3.cell? ⟨w.heap.size + 1 + 1, 0, none⟩).isSome = true := by rw [z1]; rfl
  have z6 : (w3.cell? ⟨w.heap.size + 1 + 1, 1, none⟩).isSome = true := by rw [z2]; rfl
  go_region_held3 (fun w' => w'.cell? ⟨w.heap.size, 0, none⟩ = some (.string an) ∧ w'.cell? ⟨w.heap.size, 1, none⟩ = some (.string ad) ∧ w'.cell? ⟨w.heap.size + 1, 0, none⟩ = some (.string bn) ∧ w'.cell? ⟨w.heap.size + 1, 1, none⟩ = some (.string bd) ∧
      (w'.cell? ⟨w.heap.size + 1 + 1, 0, none⟩).isSome = true ∧ (w'.cell? ⟨w.heap.size + 1 + 1, 1, none⟩).isSome = true ∧ w'.frozen? ⟨w.heap.size + 1 + 1, 0, none⟩ = false ∧ w'.frozen? ⟨w.heap.size + 1 + 1, 1, none⟩ = false ∧ w.heap.size + 3 ≤ w'.heap.size ∧ Below w.heap.size w w')
    (((try go_split_ands); (and_intros) <;> first
        | assumption | exact Below.drew (by assumption)
        | (refine (b2.cell ?_).trans ?_; (show _ < _; simp; omega); assumption) | (rw [b2.cell (by show _ < _; simp; omega)]; assumption) | (rw [b2.frozen (by show _ < _; simp; omega)]; assumption) | (have := b2.size; simp at *; omega)
        | (refine (b1.cell ?_).trans ?_; (show _ < _; simp; omega); assumption) | (rw [b1.cell (by show _ < _; simp; omega)]; assumption) | (rw [b1.frozen (by show _ < _; simp; omega)]; assumption) | (have := b1.size; simp at *; omega)
        | exact HST _ _ | (rw [sc_far _ _ (by omega)]; assumption) | (rw [sc_0 _ _ q1]; rfl) | (rw [sc_1 _ _ q2]; rfl) | (go_keep; done)))
    (first
      | (go_split_ands; go_at_call 102; (with_reducible refine (JI.out _).mono ?_); rintro e w4 ⟨rfl, b1⟩; have T1 : Below w.heap.size w w4 := Below.trans (by assumption) (b1.mono (by simp; omega)); have R1 : w4.heap[w.heap.size + 1 + 1]? = some (.cells #[.string ⟨#[]⟩, .string ⟨#[]⟩] 87 (0, 0)) := (b1.block _ (by show _ < _; simp; omega)).trans k5)
      | (go_split_ands; go_at_call 64; (with_reducible refine (JP.out _ (HV.out.below T1)).mono ?_); rintro e w5 ⟨rfl, b2⟩; have T2 : Below w.heap.size w w5 := bt T1 b2; have R2 := (b2.block _ (lt_of_block R1)).trans R1; have HST : ∀ v1 v2, Below w.heap.size w ((w5.setCell ⟨w.heap.size + 1 + 1, 0, none⟩ v1).setCell ⟨w.heap.size + 1 + 1, 1, none⟩ v2) := fun v1 v2 => (T2.setCell (by show w.heap.size ≤ w.heap.size + 1 + 1; omega) _).setCell (by show w.heap.size ≤ w.heap.size + 1 + 1; omega) _; obtain ⟨q1, q2, q3, q4⟩ := row2 R2))
  go_wp2
  refine bodyPost_ret (v := .tuple #[.agg #[.string N, .string D], .int .i64 c]) (results_cell_tmp rfl _ _ (w.heap.size + 1 + 1) 87 #[.string N, .string D] (0, 0) _ (.int .i64 c) rfl rfl (sc_row _ _ R2) Tryz.underlying87 (by kernel_rfl) (by kernel_rfl)) rfl ⟨rfl, HST _ _⟩
set_option maxRecDepth 100000 in
set_option maxHeartbeats 1600000 in
theorem quotient_zero (an ad bn bd : ByteArray) (hb : (bn.toList == [48]) = true) (w : World) :
    Calls Tryz.prog 56 #[.agg #[.string an, .string ad], .agg #[.string bn, .string bd]] w (PrsR ⟨#[]⟩ ⟨#[]⟩ 16 w) := by
  have HR := Lib.hid (fun (w3 : World) => @rows3 w (.string an) (.string ad) (.string bn) (.string bd) 87 w3)
  go_enter Tryz.func56, Tryz.ntmps56
  go_wp2
  obtain ⟨B3, s3, k1, k2, k3, k4, k5⟩ := HR.out _ rfl
  exact bodyPost_ret (v := .tuple #[.agg #[.string ⟨#[]⟩, .string ⟨#[]⟩], .int .i64 16]) (results_cell_tmp rfl _ _ (w.heap.size + 1 + 1) 87 #[.string ⟨#[]⟩, .string ⟨#[]⟩] (0, 0) _ (.int .i64 16) rfl rfl k5 Tryz.underlying87 (by kernel_rfl) (by kernel_rfl)) rfl ⟨rfl, B3⟩
end Go.Proofs.YtalnfbgaiegicaaGreatDoor
/- The walks of layer 2: parseTwo, calculate, Add, Sub, Mul, Div. -/
namespace Go.Proofs.YtalnfbgaiegicaaGreatDoor
open Go Go.RowKit

theorem VarR.drew {w : World} (h : VarR w) : VarR w.drew := ⟨⟨h.t.sz, h.t.tab⟩, h.ml⟩
set_option maxHeartbeats 2000000 in
theorem results_cells_tmp {P : Program} {fn : Func} {p r q : Tmp} {ty : TypeId} (h : fn.results = #[.cell p ty, .cell r ty, .tmp q]) (tmps : Array Value) (w : World) (g g2 : Nat) (t : TypeId) (cs cs2 : Array Value) (fr : Nat × Nat) (d : TypeDesc) (u : Value) (hq : tmps.getD q undef = u)
    (hp : tmps.getD p undef = .pointer (some ⟨g, 0, none⟩)) (hr : tmps.getD r undef = .pointer (some ⟨g2, 0, none⟩)) (hg : w.heap[g]? = some (.cells cs t fr)) (hg2 : w.heap[g2]? = some (.cells cs2 t fr))
    (hu : P.underlying ty = some d) (hd : (match d with | .struct _ | .array _ _ => true | _ => false) = true) (hi : (P.info? ty).map (·.size) = some cs.size) (hi2 : (P.info? ty).map (·.size) = some cs2.size) :
    (results fn tmps).run P w = .ok (.tuple #[.agg cs, .agg cs2, u]) w := by
  subst hq
  have hp' : tmps[p]?.getD undef = .pointer (some ⟨g, 0, none⟩) := by simpa using hp
  have hr' : tmps[r]?.getD undef = .pointer (some ⟨g2, 0, none⟩) := by simpa using hr
  simp [results, h, hp', hr', asAddr, run_loadVar_row w g t ty cs fr d hg hu hd hi, run_loadVar_row w g2 t ty cs2 fr d hg2 hu hd hi2]
def TwoF (n1 d1 n2 d2 : ByteArray) (c : Int) (w : World) (e : Ending) (w' : World) : Prop := e = .returned (.tuple #[.agg #[.string n1, .string d1], .agg #[.string n2, .string d2], .int .i64 c]) ∧ Below w.heap.size w w'
/-- Two fresh results: how their rows read after stores. -/
theorem rows2 (w : World) (t : TypeId) {w2 : World} (h2 : (w.alloc (.cells #[.string ⟨#[]⟩, .string ⟨#[]⟩] t (0, 0))).alloc (.cells #[.string ⟨#[]⟩, .string ⟨#[]⟩] t (0, 0)) = w2) :
    Below w.heap.size w w2 ∧ w2.heap[w.heap.size]? = some (.cells #[.string ⟨#[]⟩, .string ⟨#[]⟩] t (0, 0)) ∧ w2.heap[w.heap.size + 1]? = some (.cells #[.string ⟨#[]⟩, .string ⟨#[]⟩] t (0, 0)) := by
  have hh : w2.heap = ((w.heap.push (.cells #[.string ⟨#[]⟩, .string ⟨#[]⟩] t (0, 0))).push (.cells #[.string ⟨#[]⟩, .string ⟨#[]⟩] t (0, 0))) := by subst h2; rfl
  refine ⟨by subst h2; exact ((Below.refl _ w).alloc (Nat.le_refl _) _).alloc (by simp) _, ?_, ?_⟩
  · rw [hh]; simp only [Array.getElem?_push, Array.size_push]; rw [if_neg (by omega), if_pos trivial]
  · rw [hh]; simp only [Array.getElem?_push, Array.size_push]; rw [if_pos trivial]
theorem row_sc2 {w : World} {r q : Nat} {cs : Array Value} {t : TypeId} {v1 v2 : Value} (hne : q ≠ r) (h : w.heap[r]? = some (.cells cs t (0, 0))) : ((w.setCell ⟨q, 0, none⟩ v1).setCell ⟨q, 1, none⟩ v2).heap[r]? = some (.cells cs t (0, 0)) := by
  rw [World.setCell, Array.getElem?_modify, if_neg hne, World.setCell, Array.getElem?_modify, if_neg hne]; exact h
theorem row_dr {w : World} {r : Nat} {o : Obj} (h : w.heap[r]? = some o) : w.drew.heap[r]? = some o := h
theorem bel_sc2 {N : Nat} {w0 w : World} {q : Nat} {v1 v2 : Value} (h : N ≤ q) (hb : Below N w0 w) : Below N w0 ((w.setCell ⟨q, 0, none⟩ v1).setCell ⟨q, 1, none⟩ v2) :=
  (hb.setCell (p := ⟨q, 0, none⟩) h _).setCell (p := ⟨q, 1, none⟩) h _

section
variable (s t : ByteArray) (w : World) (hv : VarR w)
include hv
set_option maxRecDepth 100000 in
set_option maxHeartbeats 1600000 in
theorem parseTwo_one (a b : ByteArray) (c : Int) (h0 : ¬ c = 0)
    (H1 : ∀ W, VarR W → Calls Tryz.prog 63 #[.string s] W (PrsR a b c W)) :
    Calls Tryz.prog 58 #[.string s, .string t] w (TwoF ⟨#[]⟩ ⟨#[]⟩ ⟨#[]⟩ ⟨#[]⟩ c w) := by
  have J1 := Lib.hid H1
  have HV := Lib.hid hv
  have hz : (c == 0) = false := by rw [beq_eq_false_iff_ne]; exact h0
  have HR := Lib.hid (fun (w2 : World) => @rows2 w 87 w2)
  clear H1 hv h0
  go_enter Tryz.func58, Tryz.ntmps58
  go_wp2_with (go_at_call 63; obtain ⟨B2, g1, g2⟩ := HR.out _ rfl; refine (J1.out _ (HV.out.below B2)).mono ?_; rintro e w3 ⟨rfl, b⟩; have R1 := Lib.hid ((b.block _ (lt_of_block g1)).trans g1); have R2 := Lib.hid ((b.block _ (lt_of_block g2)).trans g2); have B3 := Lib.hid (bt B2 b); obtain ⟨k1, k2, k3, k4⟩ := row2 R1.out; obtain ⟨k5, k6, k7, k8⟩ := row2 R2.out; clear B2 g1 g2 b)
  refine bodyPost_ret (v := .tuple #[.agg #[.string ⟨#[]⟩, .string ⟨#[]⟩], .agg #[.string ⟨#[]⟩, .string ⟨#[]⟩], .int .i64 c]) (results_cells_tmp rfl _ _ w.heap.size (w.heap.size + 1) 87 #[.string ⟨#[]⟩, .string ⟨#[]⟩] #[.string ⟨#[]⟩, .string ⟨#[]⟩] (0, 0) _ (.int .i64 c) rfl rfl rfl ?_ ?_ Tryz.underlying87 (by kernel_rfl) (by kernel_rfl) (by kernel_rfl)) rfl ⟨rfl, ?_⟩
  · exact row_sc2 (by omega) (sc_row _ _ (sc_row _ _ R1.out))
  · exact sc_row _ _ (row_sc2 (by omega) (row_sc2 (by omega) R2.out))
  · exact bel_sc2 (by omega) (bel_sc2 (by omega) (bel_sc2 (by omega) B3.out))
set_option maxRecDepth 100000 in
set_option maxHeartbeats 1600000 in
theorem parseTwo_two (a d a2 d2 : ByteArray) (c : Int) (h0 : ¬ c = 0)
    (H1 : ∀ W, VarR W → Calls Tryz.prog 63 #[.string s] W (PrsR a d 0 W))
    (H2 : ∀ W, VarR W → Calls Tryz.prog 63 #[.string t] W (PrsR a2 d2 c W)) :
    Calls Tryz.prog 58 #[.string s, .string t] w (TwoF ⟨#[]⟩ ⟨#[]⟩ ⟨#[]⟩ ⟨#[]⟩ c w) := by
  have J1 := Lib.hid H1
  have J2 := Lib.hid H2
  have HV := Lib.hid hv
  have hz : (c == 0) = false := by rw [beq_eq_false_iff_ne]; exact h0
  have HR := Lib.hid (fun (w2 : World) => @rows2 w 87 w2)
  clear H1 H2 hv h0
  go_enter Tryz.func58, Tryz.ntmps58
  go_wp2_with (first
    | (go_at_call 63; obtain ⟨B2, g1, g2⟩ := HR.out _ rfl; (with_reducible refine (J1.out _ (HV.out.below B2)).mono ?_); rintro e w3 ⟨rfl, b⟩; have R1 := Lib.hid ((b.block _ (lt_of_block g1)).trans g1); have R2 := Lib.hid ((b.block _ (lt_of_block g2)).trans g2); have B3 := Lib.hid (bt B2 b); obtain ⟨k1, k2, k3, k4⟩ := row2 R1.out; obtain ⟨k5, k6, k7, k8⟩ := row2 R2.out; clear B2 g1 g2 b)
    | (go_at_call 63; (with_reducible refine (J2.out _ (HV.out.below (bel_sc2 (Nat.le_refl _) B3.out))).mono ?_); rintro e w4 ⟨rfl, b⟩
       have g1 := sc_row (.string a) (.string d) R1.out
       have g2 := row_sc2 (v1 := .string a) (v2 := .string d) (Nat.ne_of_lt (Nat.lt_succ_self _)) R2.out
       have R3 := Lib.hid ((b.block _ (lt_of_block g1)).trans g1)
       have R4 := Lib.hid ((b.block _ (lt_of_block g2)).trans g2)
       have B4 := Lib.hid (bt (bel_sc2 (q := w.heap.size) (v1 := .string a) (v2 := .string d) (Nat.le_refl _) B3.out) b)
       obtain ⟨m1, m2, m3, m4⟩ := row2 R3.out
       obtain ⟨m5, m6, m7, m8⟩ := row2 R4.out
       clear g1 g2 b k1 k2 k3 k4 k5 k6 k7 k8))
  refine bodyPost_ret (v := .tuple #[.agg #[.string ⟨#[]⟩, .string ⟨#[]⟩], .agg #[.string ⟨#[]⟩, .string ⟨#[]⟩], .int .i64 c]) (results_cells_tmp rfl _ _ w.heap.size (w.heap.size + 1) 87 #[.string ⟨#[]⟩, .string ⟨#[]⟩] #[.string ⟨#[]⟩, .string ⟨#[]⟩] (0, 0) _ (.int .i64 c) rfl rfl rfl ?_ ?_ Tryz.underlying87 (by kernel_rfl) (by kernel_rfl) (by kernel_rfl)) rfl ⟨rfl, ?_⟩
  · exact row_sc2 (by omega) (sc_row _ _ (row_sc2 (by omega) R3.out))
  · exact sc_row _ _ (row_sc2 (by omega) (sc_row _ _ R4.out))
  · exact bel_sc2 (by omega) (bel_sc2 (by omega) (bel_sc2 (by omega) B4.out))
set_option maxRecDepth 100000 in
set_option maxHeartbeats 1600000 in
theorem parseTwo_ok (a d a2 d2 : ByteArray)
    (H1 : ∀ W, VarR W → Calls Tryz.prog 63 #[.string s] W (PrsR a d 0 W))
    (H2 : ∀ W, VarR W → Calls Tryz.prog 63 #[.string t] W (PrsR a2 d2 0 W)) :
    Calls Tryz.prog 58 #[.string s, .string t] w (TwoF a d a2 d2 0 w) := by
  have J1 := Lib.hid H1
  have J2 := Lib.hid H2
  have HV := Lib.hid hv
  have HR := Lib.hid (fun (w2 : World) => @rows2 w 87 w2)
  clear H1 H2 hv
  go_enter Tryz.func58, Tryz.ntmps58
  go_wp2_with (first
    | (go_at_call 63; obtain ⟨B2, g1, g2⟩ := HR.out _ rfl; (with_reducible refine (J1.out _ (HV.out.below B2)).mono ?_); rintro e w3 ⟨rfl, b⟩; have R1 := Lib.hid ((b.block _ (lt_of_block g1)).trans g1); have R2 := Lib.hid ((b.block _ (lt_of_block g2)).trans g2); have B3 := Lib.hid (bt B2 b); obtain ⟨k1, k2, k3, k4⟩ := row2 R1.out; obtain ⟨k5, k6, k7, k8⟩ := row2 R2.out; clear B2 g1 g2 b)
    | (go_at_call 63; (with_reducible refine (J2.out _ (HV.out.below (bel_sc2 (Nat.le_refl _) B3.out))).mono ?_); rintro e w4 ⟨rfl, b⟩
       have g1 := sc_row (.string a) (.string d) R1.out
       have g2 := row_sc2 (v1 := .string a) (v2 := .string d) (Nat.ne_of_lt (Nat.lt_succ_self _)) R2.out
       have R3 := Lib.hid ((b.block _ (lt_of_block g1)).trans g1)
       have R4 := Lib.hid ((b.block _ (lt_of_block g2)).trans g2)
       have B4 := Lib.hid (bt (bel_sc2 (q := w.heap.size) (v1 := .string a) (v2 := .string d) (Nat.le_refl _) B3.out) b)
       obtain ⟨m1, m2, m3, m4⟩ := row2 R3.out
       obtain ⟨m5, m6, m7, m8⟩ := row2 R4.out
       clear g1 g2 b k1 k2 k3 k4 k5 k6 k7 k8))
  go_region
  go_wp2
  refine bodyPost_ret (v := .tuple #[.agg #[.string a, .string d], .agg #[.string a2, .string d2], .int .i64 0]) (results_cells_tmp rfl _ _ w.heap.size (w.heap.size + 1) 87 #[.string a, .string d] #[.string a2, .string d2] (0, 0) _ (.int .i64 0) rfl rfl rfl ?_ ?_ Tryz.underlying87 (by kernel_rfl) (by kernel_rfl) (by kernel_rfl)) rfl ⟨rfl, ?_⟩
  · exact row_dr (row_sc2 (by omega) (sc_row _ _ (row_sc2 (by omega) R3.out)))
  · exact row_dr (sc_row _ _ (row_sc2 (by omega) (sc_row _ _ R4.out)))
  · exact Below.drew (bel_sc2 (by omega) (bel_sc2 (by omega) (bel_sc2 (by omega) B4.out)))
end
end Go.Proofs.YtalnfbgaiegicaaGreatDoor
/- The walks of layer 2: calculate. -/
namespace Go.Proofs.YtalnfbgaiegicaaGreatDoor
open Go Go.RowKit

theorem VarR.mono {w w' : World} (h : VarR w) (hb : Below w.heap.size w w') : VarR w' := h.below hb
set_option maxRecDepth 100000 in
set_option maxHeartbeats 1600000 in
theorem calc_parse (K : Nat) (s t a d a2 d2 : ByteArray) (c : Int) (h0 : ¬ c = 0) (w : World)
    (H : Calls Tryz.prog 58 #[.string s, .string t] w (TwoF a d a2 d2 c w)) :
    Calls Tryz.prog 55 #[.string s, .string t, .func (.func K) #[] #[]] w (StE ⟨#[]⟩ c w) := by
  have J := Lib.hid H
  have hz : (c == 0) = false := by rw [beq_eq_false_iff_ne]; exact h0
  clear H h0
  go_enter Tryz.func55, Tryz.ntmps55
  go_wp2_with (go_at_call 58; refine J.out.mono ?_; rintro e w1 ⟨rfl, b⟩; have B := Lib.hid b; have hs1 := b.size; clear b)
  go_ret2
  exact ⟨rfl, (B.out.alloc hs1 _).alloc (by simp; omega) _⟩
set_option maxRecDepth 100000 in
set_option maxHeartbeats 1600000 in
theorem calc_difference_err (s t a d a2 d2 N D : ByteArray) (c : Int) (h0 : ¬ c = 0) (w : World) (hv : VarT w)
    (H : Calls Tryz.prog 58 #[.string s, .string t] w (TwoF a d a2 d2 0 w))
    (HK : ∀ W, VarT W → Calls Tryz.prog 57 #[.agg #[.string a, .string d], .agg #[.string a2, .string d2]] W (PrsR N D c W)) :
    Calls Tryz.prog 55 #[.string s, .string t, .func (.func 57) #[] #[]] w (StE ⟨#[]⟩ c w) := by
  have J := Lib.hid H
  have JK := Lib.hid HK
  have HV := Lib.hid hv
  have hz : (c == 0) = false := by rw [beq_eq_false_iff_ne]; exact h0
  clear H HK h0 hv
  go_enter Tryz.func55, Tryz.ntmps55
  go_wp2_with (first
    | (go_at_call 58; refine J.out.mono ?_; rintro e w1 ⟨rfl, b⟩; have B1 := Lib.hid (fun o o' => (b.alloc b.size o).alloc (by simp; have := b.size; omega) o'); clear b)
    | (go_at_call 57; refine (JK.out _ (HV.out.below (B1.out _ _))).mono ?_; rintro e w2 ⟨rfl, b⟩; have B2 := Lib.hid (bt (B1.out (.cells #[.string a, .string d] 87) (.cells #[.string a2, .string d2] 87)) b); clear b))
  go_ret2
  exact ⟨rfl, B2.out.alloc B2.out.size _⟩
set_option maxRecDepth 100000 in
set_option maxHeartbeats 1600000 in
theorem calc_difference_ok (s t a d a2 d2 N D R : ByteArray) (w : World) (hv : VarT w)
    (H : Calls Tryz.prog 58 #[.string s, .string t] w (TwoF a d a2 d2 0 w))
    (HK : ∀ W, VarT W → Calls Tryz.prog 57 #[.agg #[.string a, .string d], .agg #[.string a2, .string d2]] W (PrsR N D 0 W))
    (HX : ∀ W, Calls Tryz.prog 101 #[.agg #[.string N, .string D]] W (StrR R W)) :
    Calls Tryz.prog 55 #[.string s, .string t, .func (.func 57) #[] #[]] w (StE R 0 w) := by
  have J := Lib.hid H
  have JK := Lib.hid HK
  have JX := Lib.hid HX
  have HV := Lib.hid hv
  clear H HK HX hv
  go_enter Tryz.func55, Tryz.ntmps55
  go_wp2_with (first
    | (go_at_call 58; refine J.out.mono ?_; rintro e w1 ⟨rfl, b⟩; have B1 := Lib.hid (fun o o' => (b.alloc b.size o).alloc (by simp; have := b.size; omega) o'); clear b)
    | (go_at_call 57; refine (JK.out _ (HV.out.below (B1.out _ _))).mono ?_; rintro e w2 ⟨rfl, b⟩; have B2 := Lib.hid (bt (B1.out (.cells #[.string a, .string d] 87) (.cells #[.string a2, .string d2] 87)) b); clear b)
    | (go_at_call 101; refine (JX.out _).mono ?_; rintro e w3 ⟨rfl, b⟩; have B3 := Lib.hid (bt (B2.out.alloc B2.out.size (.cells #[.string N, .string D] 87)) b); clear b))
  go_ret2
  exact ⟨rfl, B3.out⟩
set_option maxRecDepth 100000 in
set_option maxHeartbeats 1600000 in
theorem calc_product_err (s t a d a2 d2 N D : ByteArray) (c : Int) (h0 : ¬ c = 0) (w : World) (hv : VarT w)
    (H : Calls Tryz.prog 58 #[.string s, .string t] w (TwoF a d a2 d2 0 w))
    (HK : ∀ W, VarT W → Calls Tryz.prog 64 #[.agg #[.string a, .string d], .agg #[.string a2, .string d2]] W (PrsR N D c W)) :
    Calls Tryz.prog 55 #[.string s, .string t, .func (.func 64) #[] #[]] w (StE ⟨#[]⟩ c w) := by
  have J := Lib.hid H
  have JK := Lib.hid HK
  have HV := Lib.hid hv
  have hz : (c == 0) = false := by rw [beq_eq_false_iff_ne]; exact h0
  clear H HK h0 hv
  go_enter Tryz.func55, Tryz.ntmps55
  go_wp2_with (first
    | (go_at_call 58; refine J.out.mono ?_; rintro e w1 ⟨rfl, b⟩; have B1 := Lib.hid (fun o o' => (b.alloc b.size o).alloc (by simp; have := b.size; omega) o'); clear b)
    | (go_at_call 64; refine (JK.out _ (HV.out.below (B1.out _ _))).mono ?_; rintro e w2 ⟨rfl, b⟩; have B2 := Lib.hid (bt (B1.out (.cells #[.string a, .string d] 87) (.cells #[.string a2, .string d2] 87)) b); clear b))
  go_ret2
  exact ⟨rfl, B2.out.alloc B2.out.size _⟩
set_option maxRecDepth 100000 in
set_option maxHeartbeats 1600000 in
theorem calc_product_ok (s t a d a2 d2 N D R : ByteArray) (w : World) (hv : VarT w)
    (H : Calls Tryz.prog 58 #[.string s, .string t] w (TwoF a d a2 d2 0 w))
    (HK : ∀ W, VarT W → Calls Tryz.prog 64 #[.agg #[.string a, .string d], .agg #[.string a2, .string d2]] W (PrsR N D 0 W))
    (HX : ∀ W, Calls Tryz.prog 101 #[.agg #[.string N, .string D]] W (StrR R W)) :
    Calls Tryz.prog 55 #[.string s, .string t, .func (.func 64) #[] #[]] w (StE R 0 w) := by
  have J := Lib.hid H
  have JK := Lib.hid HK
  have JX := Lib.hid HX
  have HV := Lib.hid hv
  clear H HK HX hv
  go_enter Tryz.func55, Tryz.ntmps55
  go_wp2_with (first
    | (go_at_call 58; refine J.out.mono ?_; rintro e w1 ⟨rfl, b⟩; have B1 := Lib.hid (fun o o' => (b.alloc b.size o).alloc (by simp; have := b.size; omega) o'); clear b)
    | (go_at_call 64; refine (JK.out _ (HV.out.below (B1.out _ _))).mono ?_; rintro e w2 ⟨rfl, b⟩; have B2 := Lib.hid (bt (B1.out (.cells #[.string a, .string d] 87) (.cells #[.string a2, .string d2] 87)) b); clear b)
    | (go_at_call 101; refine (JX.out _).mono ?_; rintro e w3 ⟨rfl, b⟩; have B3 := Lib.hid (bt (B2.out.alloc B2.out.size (.cells #[.string N, .string D] 87)) b); clear b))
  go_ret2
  exact ⟨rfl, B3.out⟩
set_option maxRecDepth 100000 in
set_option maxHeartbeats 1600000 in
theorem calc_quotient_err (s t a d a2 d2 N D : ByteArray) (c : Int) (h0 : ¬ c = 0) (w : World) (hv : VarT w)
    (H : Calls Tryz.prog 58 #[.string s, .string t] w (TwoF a d a2 d2 0 w))
    (HK : ∀ W, VarT W → Calls Tryz.prog 56 #[.agg #[.string a, .string d], .agg #[.string a2, .string d2]] W (PrsR N D c W)) :
    Calls Tryz.prog 55 #[.string s, .string t, .func (.func 56) #[] #[]] w (StE ⟨#[]⟩ c w) := by
  have J := Lib.hid H
  have JK := Lib.hid HK
  have HV := Lib.hid hv
  have hz : (c == 0) = false := by rw [beq_eq_false_iff_ne]; exact h0
  clear H HK h0 hv
  go_enter Tryz.func55, Tryz.ntmps55
  go_wp2_with (first
    | (go_at_call 58; refine J.out.mono ?_; rintro e w1 ⟨rfl, b⟩; have B1 := Lib.hid (fun o o' => (b.alloc b.size o).alloc (by simp; have := b.size; omega) o'); clear b)
    | (go_at_call 56; refine (JK.out _ (HV.out.below (B1.out _ _))).mono ?_; rintro e w2 ⟨rfl, b⟩; have B2 := Lib.hid (bt (B1.out (.cells #[.string a, .string d] 87) (.cells #[.string a2, .string d2] 87)) b); clear b))
  go_ret2
  exact ⟨rfl, B2.out.alloc B2.out.size _⟩
set_option maxRecDepth 100000 in
set_option maxHeartbeats 1600000 in
theorem calc_quotient_ok (s t a d a2 d2 N D R : ByteArray) (w : World) (hv : VarT w)
    (H : Calls Tryz.prog 58 #[.string s, .string t] w (TwoF a d a2 d2 0 w))
    (HK : ∀ W, VarT W → Calls Tryz.prog 56 #[.agg #[.string a, .string d], .agg #[.string a2, .string d2]] W (PrsR N D 0 W))
    (HX : ∀ W, Calls Tryz.prog 101 #[.agg #[.string N, .string D]] W (StrR R W)) :
    Calls Tryz.prog 55 #[.string s, .string t, .func (.func 56) #[] #[]] w (StE R 0 w) := by
  have J := Lib.hid H
  have JK := Lib.hid HK
  have JX := Lib.hid HX
  have HV := Lib.hid hv
  clear H HK HX hv
  go_enter Tryz.func55, Tryz.ntmps55
  go_wp2_with (first
    | (go_at_call 58; refine J.out.mono ?_; rintro e w1 ⟨rfl, b⟩; have B1 := Lib.hid (fun o o' => (b.alloc b.size o).alloc (by simp; have := b.size; omega) o'); clear b)
    | (go_at_call 56; refine (JK.out _ (HV.out.below (B1.out _ _))).mono ?_; rintro e w2 ⟨rfl, b⟩; have B2 := Lib.hid (bt (B1.out (.cells #[.string a, .string d] 87) (.cells #[.string a2, .string d2] 87)) b); clear b)
    | (go_at_call 101; refine (JX.out _).mono ?_; rintro e w3 ⟨rfl, b⟩; have B3 := Lib.hid (bt (B2.out.alloc B2.out.size (.cells #[.string N, .string D] 87)) b); clear b))
  go_ret2
  exact ⟨rfl, B3.out⟩
end Go.Proofs.YtalnfbgaiegicaaGreatDoor
/- The walks of layer 2: the operations on rationals: sums, differences, products, quotients. -/
namespace Go.Proofs.YtalnfbgaiegicaaGreatDoor
open Go Go.RowKit

set_option maxRecDepth 100000 in
set_option maxHeartbeats 1600000 in
theorem difference_walk (an ad bn bd N D : ByteArray) (c : Int) (w : World) (hv : VarT w)
    (H : ∀ W, VarT W → Calls Tryz.prog 103 #[.agg #[.string an, .string ad], .agg #[.string bn, .string bd], .func (.func 104) #[] #[]] W (PrsR N D c W)) :
    Calls Tryz.prog 57 #[.agg #[.string an, .string ad], .agg #[.string bn, .string bd]] w (PrsR N D c w) := by
  have J := Lib.hid H
  have HV := Lib.hid hv
  have HR := Lib.hid (fun (w3 : World) => @rows3 w (.string an) (.string ad) (.string bn) (.string bd) 87 w3)
  clear H hv
  go_enter Tryz.func57, Tryz.ntmps57
  go_wp2_with (go_at_call 103; obtain ⟨B3, _, _, _, _, _, k5⟩ := HR.out _ rfl; refine (J.out _ (HV.out.below B3)).mono ?_; rintro e w4 ⟨rfl, b⟩; have R := (b.block _ (lt_of_block k5)).trans k5; obtain ⟨m1, m2, m3, m4⟩ := row2 R; have HK := Lib.hid R; have B4 := Lib.hid (bt B3 b); clear R B3 b k5)
  refine bodyPost_ret (v := .tuple #[.agg #[.string N, .string D], .int .i64 c]) (results_cell_tmp rfl _ _ (w.heap.size + 1 + 1) 87 #[.string N, .string D] (0, 0) _ (.int .i64 c) rfl rfl (sc_row _ _ HK.out) Tryz.underlying87 (by kernel_rfl) (by kernel_rfl)) rfl ⟨rfl, bel_sc2 (by omega) B4.out⟩
theorem chk_rep {x y : Int} (hx : x.natAbs < lim) (hy : y.natAbs < lim) : bothE (Lib.itoa x) (Lib.itoa y) = 0 := by unfold bothE; rw [if_pos (chk_of_abs hx)]; exact chk_of_abs hy
theorem add_lims {x y : Int} (hx : x.natAbs < lim) (hy : y.natAbs < lim) (w : World) (hv : VarT w) :
    Calls Tryz.prog 123 #[.string (rep x), .string (rep y)] w (StE (if LB (x + y) = true then rep (x + y) else ⟨#[]⟩) (if LB (x + y) = true then 0 else 14) w) := by
  have h := add_any (rep x) (rep y) (rep_size hx) (rep_size hy) w hv
  rw [rep_data, rep_data, opS_ok (chk_rep hx hy), num_itoa, num_itoa] at h
  unfold limS at h
  cases hl : LB (x + y)
  · rw [if_neg (LB_false hl)] at h
    exact h
  · rw [if_pos (LB_true.1 hl)] at h
    exact h
theorem sub_lims {x y : Int} (hx : x.natAbs < lim) (hy : y.natAbs < lim) (w : World) (hv : VarT w) :
    Calls Tryz.prog 104 #[.string (rep x), .string (rep y)] w (StE (if LB (x - y) = true then rep (x - y) else ⟨#[]⟩) (if LB (x - y) = true then 0 else 14) w) := by
  have h := sub_any (rep x) (rep y) (rep_size hx) (rep_size hy) w hv
  rw [rep_data, rep_data, opS_ok (chk_rep hx hy), num_itoa, num_itoa] at h
  unfold limS at h
  cases hl : LB (x - y)
  · rw [if_neg (LB_false hl)] at h
    exact h
  · rw [if_pos (LB_true.1 hl)] at h
    exact h
set_option maxHeartbeats 800000 in
theorem difference_q (a b : Rat) (ha : Sml a) (hb : Sml b) (w : World) (hv : VarT w) :
    Calls Tryz.prog 57 #[.agg #[.string (rep a.num), .string (rep (a.den : Int))], .agg #[.string (rep b.num), .string (rep (b.den : Int))]] w (PrsR (nT (subC a b) (a - b)) (dT (subC a b) (a - b)) (subC a b) w) := by
  have H1 := fun W hW => mul_lims ha.1 hb.2 _ _ rfl rfl _ _ rfl rfl W hW
  have H2 := fun W hW => mul_lims hb.1 ha.2 _ _ rfl rfl _ _ rfl rfl W hW
  have H3 := fun W hW => mul_lims ha.2 hb.2 _ _ rfl rfl _ _ rfl rfl W hW
  refine difference_walk _ _ _ _ _ _ _ w hv fun W hW => ?_
  cases h1 : LB (a.num * (b.den : Int)) <;> cases h2 : LB (b.num * (a.den : Int)) <;> cases h3 : LB ((a.den : Int) * (b.den : Int))
  all_goals
    rw [h1] at H1
    rw [h2] at H2
    rw [h3] at H3
    simp only [if_true, Bool.false_eq_true, if_false] at H1 H2 H3
  case true.true.true =>
    have H4 := fun W hW => sub_lims (LB_true.1 h1) (LB_true.1 h2) W hW
    cases h4 : LB (a.num * (b.den : Int) - b.num * (a.den : Int))
    all_goals
      rw [h4] at H4
      simp only [if_true, Bool.false_eq_true, if_false] at H4
    · have e : subC a b = 14 := by unfold subC; rw [h1, h2, h3, h4]; rfl
      rw [e, nT_err (by decide), dT_err (by decide)]
      exact combined_sub_jerr _ _ _ _ _ _ _ _ 14 (by decide) W hW H1 H2 H3 H4
    · have e : subC a b = 0 := by unfold subC; rw [h1, h2, h3, h4]; rfl
      rw [e, nT_ok, dT_ok]
      exact combined_sub_ok _ _ _ _ _ _ _ _ _ _ W hW H1 H2 H3 H4 (fun W hW => reduced_q (LB_true.1 h4) (LB_true.1 h3) (den_mul_ne a b) (rat_sub a b).symm _ _ rfl rfl W hW)
  all_goals
    have e : subC a b = 14 := by unfold subC; rw [h1, h2, h3]; rfl
    rw [e, nT_err (by decide), dT_err (by decide)]
    exact combined_err _ _ _ _ _ _ _ _ _ _ _ _ 14 rfl rfl (by decide) W hW H1 H2 H3
/-- A product of fractions whose parts are any integers. -/
theorem product_z {x y x2 y2 : Int} {q : Rat} (hx : x.natAbs < lim) (hy : y.natAbs < lim) (hx2 : x2.natAbs < lim) (hy2 : y2.natAbs < lim) (h0 : y * y2 ≠ 0) (hq : Rat.divInt (x * x2) (y * y2) = q) (c : Int) (hc : (if LB (x * x2) && LB (y * y2) then 0 else 14) = c) (w : World) (hv : VarT w) :
    Calls Tryz.prog 64 #[.agg #[.string (rep x), .string (rep y)], .agg #[.string (rep x2), .string (rep y2)]] w (PrsR (nT c q) (dT c q) c w) := by
  subst hc
  have H1 := fun W hW => mul_lims hx hx2 _ _ rfl rfl _ _ rfl rfl W hW
  have H2 := fun W hW => mul_lims hy hy2 _ _ rfl rfl _ _ rfl rfl W hW
  cases h1 : LB (x * x2) <;> cases h2 : LB (y * y2)
  all_goals
    rw [h1] at H1
    rw [h2] at H2
    simp only [if_true, Bool.false_eq_true, if_false] at H1 H2
  case true.true =>
    show Calls _ _ _ _ (PrsR (nT 0 q) (dT 0 q) 0 w)
    rw [nT_ok, dT_ok]
    exact product_ok _ _ _ _ _ _ _ _ w hv H1 H2 (fun W hW => reduced_q (LB_true.1 h1) (LB_true.1 h2) h0 hq _ _ rfl rfl W hW)
  all_goals
    show Calls _ _ _ _ (PrsR (nT 14 q) (dT 14 q) 14 w)
    rw [nT_err (by decide), dT_err (by decide)]
    exact product_err _ _ _ _ _ _ _ _ 14 rfl (by decide) w hv H1 H2
theorem product_q (a b : Rat) (ha : Sml a) (hb : Sml b) (w : World) (hv : VarT w) :
    Calls Tryz.prog 64 #[.agg #[.string (rep a.num), .string (rep (a.den : Int))], .agg #[.string (rep b.num), .string (rep (b.den : Int))]] w (PrsR (nT (mulC a b) (a * b)) (dT (mulC a b) (a * b)) (mulC a b) w) :=
  product_z ha.1 ha.2 hb.1 hb.2 (den_mul_ne a b) (rat_mul a b).symm _ rfl w hv
theorem rep_ng (y : Int) : ngB (rep y).data.toList = decide (y < 0) := by
  rw [rep_data]
  rcases Int.lt_or_le y 0 with h | h
  · obtain ⟨u, hu⟩ := Int.eq_ofNat_of_zero_le (show 0 ≤ -y by omega)
    obtain rfl : y = -(u : Int) := by omega
    rw [itoa_neg u (by omega), decide_eq_true h]; rfl
  · obtain ⟨c, r, e, hc⟩ := itoa_head_pos y h
    rw [e, decide_eq_false (by omega)]
    unfold ngB
    simp [hc]
/-- The inverse as the program writes it. -/
theorem inverse_q (b : Rat) (hb : Sml b) (h0 : b.num ≠ 0) (w : World) :
    Calls Tryz.prog 102 #[.agg #[.string (rep b.num), .string (rep (b.den : Int))]] w (FraR (rep (b⁻¹).num) (rep ((b⁻¹).den : Int)) w) := by
  obtain ⟨e1, e2⟩ := rat_inv b (num_ne h0)
  rw [e1, e2]
  rcases Int.lt_trichotomy b.num 0 with h | h | h
  · rw [Int.sign_eq_neg_one_of_neg h, Int.neg_one_mul]
    have hn := rep_ng b.num
    rw [decide_eq_true h] at hn
    obtain ⟨⟨h1, _⟩, h2⟩ := rep_neg_byte b.num h _ _ rfl rfl
    refine inverse_neg _ _ _ _ hn h1 ?_ (minus_cat _ (by have := b.den_pos; omega) _ rfl) ?_ w
    · have := rep_short hb.2; omega
    · rw [h2]; congr 1; omega
  · exact absurd h h0
  · rw [Int.sign_eq_one_of_pos h, Int.one_mul]
    have hn := rep_ng b.num
    rw [decide_eq_false (by omega)] at hn
    have e : ((b.num.natAbs : Nat) : Int) = b.num := by omega
    rw [e]
    exact inverse_pos _ _ hn w
theorem sml_inv {b : Rat} (hb : Sml b) (h0 : b.num ≠ 0) : Sml b⁻¹ := by
  obtain ⟨e1, e2⟩ := rat_inv b (num_ne h0)
  constructor
  · rw [e1, Int.natAbs_mul, Int.natAbs_sign_of_ne_zero h0, Nat.one_mul]; exact hb.2
  · rw [e2, Int.natAbs_natCast]; exact hb.1
theorem divC_inv (a b : Rat) (h0 : b.num ≠ 0) : (if LB (a.num * (b⁻¹).num) && LB ((a.den : Int) * ((b⁻¹).den : Int)) then 0 else 14) = divC a b := by
  obtain ⟨e1, e2⟩ := rat_inv b (num_ne h0)
  unfold divC
  rw [if_neg h0, e1, e2]
  have k1 : LB (a.num * (b.num.sign * b.den)) = LB (a.num * b.den) := by
    unfold LB
    rw [Int.natAbs_mul, Int.natAbs_mul, Int.natAbs_sign_of_ne_zero h0, Nat.one_mul, ← Int.natAbs_mul]
  have k2 : LB ((a.den : Int) * (b.num.natAbs : Int)) = LB ((a.den : Int) * b.num) := by
    unfold LB
    rw [Int.natAbs_mul, Int.natAbs_mul]; simp
  rw [k1, k2]
theorem quotient_q (a b : Rat) (ha : Sml a) (hb : Sml b) (w : World) (hv : VarT w) :
    Calls Tryz.prog 56 #[.agg #[.string (rep a.num), .string (rep (a.den : Int))], .agg #[.string (rep b.num), .string (rep (b.den : Int))]] w (PrsR (nT (divC a b) (a / b)) (dT (divC a b) (a / b)) (divC a b) w) := by
  have hz : ((rep b.num).toList == [48]) = decide (b.num = 0) := by
    rw [Lib.toList_data, rep_data, Bool.eq_iff_iff, beq_iff_eq, decide_eq_true_iff, ← itoa_zero]
    exact ⟨fun h => itoa_inj h, fun h => by rw [h]⟩
  by_cases h0 : b.num = 0
  · have e : divC a b = 16 := by unfold divC; rw [if_pos h0]
    rw [e, nT_err (by decide), dT_err (by decide)]
    exact quotient_zero _ _ _ _ (by rw [hz]; exact decide_eq_true h0) w
  · have hi := sml_inv hb h0
    exact quotient_walk _ _ _ _ _ _ _ _ _ (by rw [hz]; exact decide_eq_false h0) w hv (fun W => inverse_q b hb h0 W)
      (fun W hW => product_z ha.1 ha.2 hi.1 hi.2 (den_mul_ne a b⁻¹) (by rw [Rat.div_def, rat_mul]) _ (divC_inv a b h0) W hW)
end Go.Proofs.YtalnfbgaiegicaaGreatDoor

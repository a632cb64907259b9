/- The walks of layer 2: parseTwo, calculate, Add, Sub, Mul, Div. -/
import Derived.Test.YtgjhgkglfflmjaaGreatDoorRatW
namespace Go.Proofs.YtgjhgkglfflmjaaGreatDoor
open Go Go.RowKit

theorem VarR.drew {w : World} (h : VarR w) : VarR w.drew := ⟨⟨h.t.sz, h.t.tab⟩, h.ml⟩
set_option maxHeartbeats 2000000 in
theorem results_cells_tmp {P : Program} {fn : Func} {p r q : Tmp} {ty : TypeId} (h : fn.results = #[.cell p ty, .cell r ty, .tmp q]) (tmps : Array Value) (w : World) (g g2 : Nat) (t : TypeId) (cs cs2 : Array Value) (fr : Nat × Nat) (d : TypeDesc) (u : Value) (hq : tmps.getD q undef = u)
    (hp : tmps.getD p undef = .pointer (some ⟨g, 0, none⟩)) (hr : tmps.getD r undef = .pointer (some ⟨g2, 0, none⟩)) (hg : w.heap[g]? = some (.cells cs t fr)) (hg2 : w.heap[g2]? = some (.cells cs2 t fr))
    (hu : P.underlying ty = some d) (hd : (match d with | .struct _ | .array _ _ => true | _ => false) = true) (hi : (P.info? ty).map (·.size) = some cs.size) (hi2 : (P.info? ty).map (·.size) = some cs2.size) :
    (results fn tmps).run P w = .ok (.tuple #[.agg cs, .agg cs2, u]) w := by
  subst hq
  have hp' : tmps[p]?.getD undef = .pointer (some ⟨g, 0, none⟩) := by simpa using hp
  have hr' : tmps[r]?.getD undef = .pointer (some ⟨g2, 0, none⟩) := by simpa using hr
  simp [results, h, hp', hr', asAddr, run_loadVar_row w g t ty cs fr d hg hu hd hi, run_loadVar_row w g2 t ty cs2 fr d hg2 hu hd hi2]
def TwoF (n1 d1 n2 d2 : ByteArray) (c : Int) (w : World) (e : Ending) (w' : World) : Prop := e = .returned (.tuple #[.agg #[.string n1, .string d1], .agg #[.string n2, .string d2], .int .i64 c]) ∧ Below w.heap.size w w'
/-- Two fresh results: how their rows read after stores. -/
theorem rows2 (w : World) (t : TypeId) {w2 : World} (h2 : (w.alloc (.cells #[.string ⟨#[]⟩, .string ⟨#[]⟩] t (0, 0))).alloc (.cells #[.string ⟨#[]⟩, .string ⟨#[]⟩] t (0, 0)) = w2) :
    Below w.heap.size w w2 ∧ w2.heap[w.heap.size]? = some (.cells #[.string ⟨#[]⟩, .string ⟨#[]⟩] t (0, 0)) ∧ w2.heap[w.heap.size + 1]? = some (.cells #[.string ⟨#[]⟩, .string ⟨#[]⟩] t (0, 0)) := by
  have hh : w2.heap = ((w.heap.push (.cells #[.string ⟨#[]⟩, .string ⟨#[]⟩] t (0, 0))).push (.cells #[.string ⟨#[]⟩, .string ⟨#[]⟩] t (0, 0))) := by subst h2; rfl
  refine ⟨by subst h2; exact ((Below.refl _ w).alloc (Nat.le_refl _) _).alloc (by simp) _, ?_, ?_⟩
  · rw [hh]; simp only [Array.getElem?_push, Array.size_push]; rw [if_neg (by omega), if_pos trivial]
  · rw [hh]; simp only [Array.getElem?_push, Array.size_push]; rw [if_pos trivial]
theorem row_sc2 {w : World} {r q : Nat} {cs : Array Value} {t : TypeId} {v1 v2 : Value} (hne : q ≠ r) (h : w.heap[r]? = some (.cells cs t (0, 0))) : ((w.setCell ⟨q, 0, none⟩ v1).setCell ⟨q, 1, none⟩ v2).heap[r]? = some (.cells cs t (0, 0)) := by
  rw [World.setCell, Array.getElem?_modify, if_neg hne, World.setCell, Array.getElem?_modify, if_neg hne]; exact h
theorem row_dr {w : World} {r : Nat} {o : Obj} (h : w.heap[r]? = some o) : w.drew.heap[r]? = some o := h
theorem bel_sc2 {N : Nat} {w0 w : World} {q : Nat} {v1 v2 : Value} (h : N ≤ q) (hb : Below N w0 w) : Below N w0 ((w.setCell ⟨q, 0, none⟩ v1).setCell ⟨q, 1, none⟩ v2) :=
  (hb.setCell (p := ⟨q, 0, none⟩) h _).setCell (p := ⟨q, 1, none⟩) h _

section
variable (s t : ByteArray) (w : World) (hv : VarR w)
include hv
set_option maxRecDepth 100000 in
set_option maxHeartbeats 1600000 in
theorem parseTwo_one (a b : ByteArray) (c : Int) (h0 : ¬ c = 0)
    (H1 : ∀ W, VarR W → Calls Tryz.prog 38 #[.string s] W (PrsR a b c W)) :
    Calls Tryz.prog 42 #[.string s, .string t] w (TwoF ⟨#[]⟩ ⟨#[]⟩ ⟨#[]⟩ ⟨#[]⟩ c w) := by
  have J1 := Lib.hid H1
  have HV := Lib.hid hv
  have hz : (c == 0) = false := by rw [beq_eq_false_iff_ne]; exact h0
  have HR := Lib.hid (fun (w2 : World) => @rows2 w 60 w2)
  clear H1 hv h0
  go_enter Tryz.func42, Tryz.ntmps42
  go_wp2_with (go_at_call 38; obtain ⟨B2, g1, g2⟩ := HR.out _ rfl; refine (J1.out _ (HV.out.below B2)).mono ?_; rintro e w3 ⟨rfl, b⟩; have R1 := Lib.hid ((b.block _ (lt_of_block g1)).trans g1); have R2 := Lib.hid ((b.block _ (lt_of_block g2)).trans g2); have B3 := Lib.hid (bt B2 b); obtain ⟨k1, k2, k3, k4⟩ := row2 R1.out; obtain ⟨k5, k6, k7, k8⟩ := row2 R2.out; clear B2 g1 g2 b)
  refine bodyPost_ret (v := .tuple #[.agg #[.string ⟨#[]⟩, .string ⟨#[]⟩], .agg #[.string ⟨#[]⟩, .string ⟨#[]⟩], .int .i64 c]) (results_cells_tmp rfl _ _ w.heap.size (w.heap.size + 1) 60 #[.string ⟨#[]⟩, .string ⟨#[]⟩] #[.string ⟨#[]⟩, .string ⟨#[]⟩] (0, 0) _ (.int .i64 c) rfl rfl rfl ?_ ?_ Tryz.underlying60 (by kernel_rfl) (by kernel_rfl) (by kernel_rfl)) rfl ⟨rfl, ?_⟩
  · exact row_sc2 (by omega) (sc_row _ _ (sc_row _ _ R1.out))
  · exact sc_row _ _ (row_sc2 (by omega) (row_sc2 (by omega) R2.out))
  · exact bel_sc2 (by omega) (bel_sc2 (by omega) (bel_sc2 (by omega) B3.out))
set_option maxRecDepth 100000 in
set_option maxHeartbeats 1600000 in
theorem parseTwo_two (a d a2 d2 : ByteArray) (c : Int) (h0 : ¬ c = 0)
    (H1 : ∀ W, VarR W → Calls Tryz.prog 38 #[.string s] W (PrsR a d 0 W))
    (H2 : ∀ W, VarR W → Calls Tryz.prog 38 #[.string t] W (PrsR a2 d2 c W)) :
    Calls Tryz.prog 42 #[.string s, .string t] w (TwoF ⟨#[]⟩ ⟨#[]⟩ ⟨#[]⟩ ⟨#[]⟩ c w) := by
  have J1 := Lib.hid H1
  have J2 := Lib.hid H2
  have HV := Lib.hid hv
  have hz : (c == 0) = false := by rw [beq_eq_false_iff_ne]; exact h0
  have HR := Lib.hid (fun (w2 : World) => @rows2 w 60 w2)
  clear H1 H2 hv h0
  go_enter Tryz.func42, Tryz.ntmps42
  go_wp2_with (first
    | (go_at_call 38; obtain ⟨B2, g1, g2⟩ := HR.out _ rfl; (with_reducible refine (J1.out _ (HV.out.below B2)).mono ?_); rintro e w3 ⟨rfl, b⟩; have R1 := Lib.hid ((b.block _ (lt_of_block g1)).trans g1); have R2 := Lib.hid ((b.block _ (lt_of_block g2)).trans g2); have B3 := Lib.hid (bt B2 b); obtain ⟨k1, k2, k3, k4⟩ := row2 R1.out; obtain ⟨k5, k6, k7, k8⟩ := row2 R2.out; clear B2 g1 g2 b)
    | (go_at_call 38; (with_reducible refine (J2.out _ (HV.out.below (bel_sc2 (Nat.le_refl _) B3.out))).mono ?_); rintro e w4 ⟨rfl, b⟩
       have g1 := sc_row (.string a) (.string d) R1.out
       have g2 := row_sc2 (v1 := .string a) (v2 := .string d) (Nat.ne_of_lt (Nat.lt_succ_self _)) R2.out
       have R3 := Lib.hid ((b.block _ (lt_of_block g1)).trans g1)
       have R4 := Lib.hid ((b.block _ (lt_of_block g2)).trans g2)
       have B4 := Lib.hid (bt (bel_sc2 (q := w.heap.size) (v1 := .string a) (v2 := .string d) (Nat.le_refl _) B3.out) b)
       obtain ⟨m1, m2, m3, m4⟩ := row2 R3.out
       obtain ⟨m5, m6, m7, m8⟩ := row2 R4.out
       clear g1 g2 b k1 k2 k3 k4 k5 k6 k7 k8))
  refine bodyPost_ret (v := .tuple #[.agg #[.string ⟨#[]⟩, .string ⟨#[]⟩], .agg #[.string ⟨#[]⟩, .string ⟨#[]⟩], .int .i64 c]) (results_cells_tmp rfl _ _ w.heap.size (w.heap.size + 1) 60 #[.string ⟨#[]⟩, .string ⟨#[]⟩] #[.string ⟨#[]⟩, .string ⟨#[]⟩] (0, 0) _ (.int .i64 c) rfl rfl rfl ?_ ?_ Tryz.underlying60 (by kernel_rfl) (by kernel_rfl) (by kernel_rfl)) rfl ⟨rfl, ?_⟩
  · exact row_sc2 (by omega) (sc_row _ _ (row_sc2 (by omega) R3.out))
  · exact sc_row _ _ (row_sc2 (by omega) (sc_row _ _ R4.out))
  · exact bel_sc2 (by omega) (bel_sc2 (by omega) (bel_sc2 (by omega) B4.out))
set_option maxRecDepth 100000 in
set_option maxHeartbeats 1600000 in
theorem parseTwo_ok (a d a2 d2 : ByteArray)
    (H1 : ∀ W, VarR W → Calls Tryz.prog 38 #[.string s] W (PrsR a d 0 W))
    (H2 : ∀ W, VarR W → Calls Tryz.prog 38 #[.string t] W (PrsR a2 d2 0 W)) :
    Calls Tryz.prog 42 #[.string s, .string t] w (TwoF a d a2 d2 0 w) := by
  have J1 := Lib.hid H1
  have J2 := Lib.hid H2
  have HV := Lib.hid hv
  have HR := Lib.hid (fun (w2 : World) => @rows2 w 60 w2)
  clear H1 H2 hv
  go_enter Tryz.func42, Tryz.ntmps42
  go_wp2_with (first
    | (go_at_call 38; obtain ⟨B2, g1, g2⟩ := HR.out _ rfl; (with_reducible refine (J1.out _ (HV.out.below B2)).mono ?_); rintro e w3 ⟨rfl, b⟩; have R1 := Lib.hid ((b.block _ (lt_of_block g1)).trans g1); have R2 := Lib.hid ((b.block _ (lt_of_block g2)).trans g2); have B3 := Lib.hid (bt B2 b); obtain ⟨k1, k2, k3, k4⟩ := row2 R1.out; obtain ⟨k5, k6, k7, k8⟩ := row2 R2.out; clear B2 g1 g2 b)
    | (go_at_call 38; (with_reducible refine (J2.out _ (HV.out.below (bel_sc2 (Nat.le_refl _) B3.out))).mono ?_); rintro e w4 ⟨rfl, b⟩
       have g1 := sc_row (.string a) (.string d) R1.out
       have g2 := row_sc2 (v1 := .string a) (v2 := .string d) (Nat.ne_of_lt (Nat.lt_succ_self _)) R2.out
       have R3 := Lib.hid ((b.block _ (lt_of_block g1)).trans g1)
       have R4 := Lib.hid ((b.block _ (lt_of_block g2)).trans g2)
       have B4 := Lib.hid (bt (bel_sc2 (q := w.heap.size) (v1 := .string a) (v2 := .string d) (Nat.le_refl _) B3.out) b)
       obtain ⟨m1, m2, m3, m4⟩ := row2 R3.out
       obtain ⟨m5, m6, m7, m8⟩ := row2 R4.out
       clear g1 g2 b k1 k2 k3 k4 k5 k6 k7 k8))
  go_region
  go_wp2
  refine bodyPost_ret (v := .tuple #[.agg #[.string a, .string d], .agg #[.string a2, .string d2], .int .i64 0]) (results_cells_tmp rfl _ _ w.heap.size (w.heap.size + 1) 60 #[.string a, .string d] #[.string a2, .string d2] (0, 0) _ (.int .i64 0) rfl rfl rfl ?_ ?_ Tryz.underlying60 (by kernel_rfl) (by kernel_rfl) (by kernel_rfl)) rfl ⟨rfl, ?_⟩
  · exact row_dr (row_sc2 (by omega) (sc_row _ _ (row_sc2 (by omega) R3.out)))
  · exact row_dr (sc_row _ _ (row_sc2 (by omega) (sc_row _ _ R4.out)))
  · exact Below.drew (bel_sc2 (by omega) (bel_sc2 (by omega) (bel_sc2 (by omega) B4.out)))
end
end Go.Proofs.YtgjhgkglfflmjaaGreatDoor

/- Joined: RatW, RatAa. -/
import Derived.Test.YtnomccgdajcfiaaGreatDoorPk17
/- Joined: RatW, RatX, RatY, RatZ. -/
/- The walks of layer 2: inverse, quotient. -/
namespace Go.Proofs.YtnomccgdajcfiaaGreatDoor
open Go Go.RowKit
theorem rows3 (w : World) (a b c d : Value) (t : TypeId) {w3 : World}
    (h3 : (((w.alloc (.cells #[a, b] t (0, 0))).alloc (.cells #[c, d] t (0, 0))).alloc (.cells #[.string ⟨#[]⟩, .string ⟨#[]⟩] t (0, 0))) = w3) :
    Below w.heap.size w w3 ∧ w.heap.size + 3 ≤ w3.heap.size ∧
    w3.cell? ⟨w.heap.size, 0, none⟩ = some a ∧ w3.cell? ⟨w.heap.size, 1, none⟩ = some b ∧ w3.cell? ⟨w.heap.size + 1, 0, none⟩ = some c ∧ w3.cell? ⟨w.heap.size + 1, 1, none⟩ = some d ∧
    w3.heap[w.heap.size + 1 + 1]? = some (.cells #[.string ⟨#[]⟩, .string ⟨#[]⟩] t (0, 0)) := by
  have hh : w3.heap = (((w.heap.push (.cells #[a, b] t (0, 0))).push (.cells #[c, d] t (0, 0))).push (.cells #[.string ⟨#[]⟩, .string ⟨#[]⟩] t (0, 0))) := by subst h3; rfl
  have B : Below w.heap.size w w3 := by
    subst h3
    exact (((Below.refl _ w).alloc (Nat.le_refl _) _).alloc (by simp) _).alloc (by simp; omega) _
  clear h3
  have g0 : w3.heap[w.heap.size]? = some (.cells #[a, b] t (0, 0)) := by
    rw [hh]; simp only [Array.getElem?_push, Array.size_push]
    rw [if_neg (by omega), if_neg (by omega), if_pos trivial]
  have g1 : w3.heap[w.heap.size + 1]? = some (.cells #[c, d] t (0, 0)) := by
    rw [hh]; simp only [Array.getElem?_push, Array.size_push]
    rw [if_neg (by omega), if_pos trivial]
  have g2 : w3.heap[w.heap.size + 1 + 1]? = some (.cells #[.string ⟨#[]⟩, .string ⟨#[]⟩] t (0, 0)) := by
    rw [hh]; simp only [Array.getElem?_push, Array.size_push]
    rw [if_pos trivial]
  have hs : w.heap.size + 3 ≤ w3.heap.size := by rw [hh]; simp
  clear hh
  obtain ⟨k1, k2, _, _⟩ := row2 g0
  obtain ⟨k3, k4, _, _⟩ := row2 g1
  exact ⟨B, hs, k1, k2, k3, k4, g2⟩
end Go.Proofs.YtnomccgdajcfiaaGreatDoor
/- The walks of layer 2: parseTwo, calculate, Add, Sub, Mul, Div. -/
namespace Go.Proofs.YtnomccgdajcfiaaGreatDoor
open Go Go.RowKit
set_option maxHeartbeats 2000000 in
theorem results_cells_tmp {P : Program} {fn : Func} {p r q : Tmp} {ty : TypeId} (h : fn.results = #[.cell p ty, .cell r ty, .tmp q]) (tmps : Array Value) (w : World) (g g2 : Nat) (t : TypeId) (cs cs2 : Array Value) (fr : Nat × Nat) (d : TypeDesc) (u : Value) (hq : tmps.getD q undef = u)
    (hp : tmps.getD p undef = .pointer (some ⟨g, 0, none⟩)) (hr : tmps.getD r undef = .pointer (some ⟨g2, 0, none⟩)) (hg : w.heap[g]? = some (.cells cs t fr)) (hg2 : w.heap[g2]? = some (.cells cs2 t fr))
    (hu : P.underlying ty = some d) (hd : (match d with | .struct _ | .array _ _ => true | _ => false) = true) (hi : (P.info? ty).map (·.size) = some cs.size) (hi2 : (P.info? ty).map (·.size) = some cs2.size) :
    (results fn tmps).run P w = .ok (.tuple #[.agg cs, .agg cs2, u]) w := by
  subst hq
  have hp' : tmps[p]?.getD undef = .pointer (some ⟨g, 0, none⟩) := by simpa using hp
  have hr' : tmps[r]?.getD undef = .pointer (some ⟨g2, 0, none⟩) := by simpa using hr
  simp [results, h, hp', hr', asAddr, run_loadVar_row w g t ty cs fr d hg hu hd hi, run_loadVar_row w g2 t ty cs2 fr d hg2 hu hd hi2]
def TwoF (n1 d1 n2 d2 : ByteArray) (c : Int) (w : World) (e : Ending) (w' : World) : Prop := e = .returned (.tuple #[.agg #[.string n1, .string d1], .agg #[.string n2, .string d2], .int .i64 c]) ∧ Below w.heap.size w w'
theorem rows2 (w : World) (t : TypeId) {w2 : World} (h2 : (w.alloc (.cells #[.string ⟨#[]⟩, .string ⟨#[]⟩] t (0, 0))).alloc (.cells #[.string ⟨#[]⟩, .string ⟨#[]⟩] t (0, 0)) = w2) :
    Below w.heap.size w w2 ∧ w2.heap[w.heap.size]? = some (.cells #[.string ⟨#[]⟩, .string ⟨#[]⟩] t (0, 0)) ∧ w2.heap[w.heap.size + 1]? = some (.cells #[.string ⟨#[]⟩, .string ⟨#[]⟩] t (0, 0)) := by
  have hh : w2.heap = ((w.heap.push (.cells #[.string ⟨#[]⟩, .string ⟨#[]⟩] t (0, 0))).push (.cells #[.string ⟨#[]⟩, .string ⟨#[]⟩] t (0, 0))) := by subst h2; rfl
  refine ⟨by subst h2; exact ((Below.refl _ w).alloc (Nat.le_refl _) _).alloc (by simp) _, ?_, ?_⟩
  · rw [hh]; simp only [Array.getElem?_push, Array.size_push]; rw [if_neg (by omega), if_pos trivial]
  · rw [hh]; simp only [Array.getElem?_push, Array.size_push]; rw [if_pos trivial]
theorem row_sc2 {w : World} {r q : Nat} {cs : Array Value} {t : TypeId} {v1 v2 : Value} (hne : q ≠ r) (h : w.heap[r]? = some (.cells cs t (0, 0))) : ((w.setCell ⟨q, 0, none⟩ v1).setCell ⟨q, 1, none⟩ v2).heap[r]? = some (.cells cs t (0, 0)) := by
  rw [World.setCell, Array.getElem?_modify, if_neg hne, World.setCell, Array.getElem?_modify, if_neg hne]; exact h
theorem row_dr {w : World} {r : Nat} {o : Obj} (h : w.heap[r]? = some o) : w.drew.heap[r]? = some o := h
theorem bel_sc2 {N : Nat} {w0 w : World} {q : Nat} {v1 v2 : Value} (h : N ≤ q) (hb : Below N w0 w) : Below N w0 ((w.setCell ⟨q, 0, none⟩ v1).setCell ⟨q, 1, none⟩ v2) :=
  (hb.setCell (p := ⟨q, 0, none⟩) h _).setCell (p := ⟨q, 1, none⟩) h _
section
variable (s t : ByteArray) (w : World) (hv : VarR w)
include hv
set_option maxRecDepth 100000 in
set_option maxHeartbeats 1600000 in
theorem parseTwo_one (a b : ByteArray) (c : Int) (h0 : ¬ c = 0)
    (H1 : ∀ W, VarR W → Calls Tryz.prog 96 #[.string s] W (PrsR a b c W)) :
    Calls Tryz.prog 77 #[.string s, .string t] w (TwoF ⟨#[]⟩ ⟨#[]⟩ ⟨#[]⟩ ⟨#[]⟩ c w) := by
  have J1 := Lib.hid H1
  have HV := Lib.hid hv
  have hz : (c == 0) = false := by rw [beq_eq_false_iff_ne]; exact h0
  have HR := Lib.hid (fun (w2 : World) => @rows2 w 111 w2)
  clear H1 hv h0
  go_enter Tryz.func77, Tryz.ntmps77
  go_wp2_with (go_at_call 96; obtain ⟨B2, g1, g2⟩ := HR.out _ rfl; refine (J1.out _ (HV.out.below B2)).mono ?_; rintro e w3 ⟨rfl, b⟩; have R1 := Lib.hid ((b.block _ (lt_of_block g1)).trans g1); have R2 := Lib.hid ((b.block _ (lt_of_block g2)).trans g2); have B3 := Lib.hid (bt B2 b); obtain ⟨k1, k2, k3, k4⟩ := row2 R1.out; obtain ⟨k5, k6, k7, k8⟩ := row2 R2.out; clear B2 g1 g2 b)
  refine bodyPost_ret (v := .tuple #[.agg #[.string ⟨#[]⟩, .string ⟨#[]⟩], .agg #[.string ⟨#[]⟩, .string ⟨#[]⟩], .int .i64 c]) (results_cells_tmp rfl _ _ w.heap.size (w.heap.size + 1) 111 #[.string ⟨#[]⟩, .string ⟨#[]⟩] #[.string ⟨#[]⟩, .string ⟨#[]⟩] (0, 0) _ (.int .i64 c) rfl rfl rfl ?_ ?_ Tryz.underlying111 (by kernel_rfl) (by kernel_rfl) (by kernel_rfl)) rfl ⟨rfl, ?_⟩
  · exact row_sc2 (by omega) (sc_row _ _ (sc_row _ _ R1.out))
  · exact sc_row _ _ (row_sc2 (by omega) (row_sc2 (by omega) R2.out))
  · exact bel_sc2 (by omega) (bel_sc2 (by omega) (bel_sc2 (by omega) B3.out))
set_option maxRecDepth 100000 in
set_option maxHeartbeats 1600000 in
theorem parseTwo_two (a d a2 d2 : ByteArray) (c : Int) (h0 : ¬ c = 0)
    (H1 : ∀ W, VarR W → Calls Tryz.prog 96 #[.string s] W (PrsR a d 0 W))
    (H2 : ∀ W, VarR W → Calls Tryz.prog 96 #[.string t] W (PrsR a2 d2 c W)) :
    Calls Tryz.prog 77 #[.string s, .string t] w (TwoF ⟨#[]⟩ ⟨#[]⟩ ⟨#[]⟩ ⟨#[]⟩ c w) := by
  have J1 := Lib.hid H1
  have J2 := Lib.hid H2
  have HV := Lib.hid hv
  have hz : (c == 0) = false := by rw [beq_eq_false_iff_ne]; exact h0
  have HR := Lib.hid (fun (w2 : World) => @rows2 w 111 w2)
  clear H1 H2 hv h0
  go_enter Tryz.func77, Tryz.ntmps77
  go_wp2_with (first
    | (go_at_call 96; obtain ⟨B2, g1, g2⟩ := HR.out _ rfl; (with_reducible refine (J1.out _ (HV.out.below B2)).mono ?_); rintro e w3 ⟨rfl, b⟩; have R1 := Lib.hid ((b.block _ (lt_of_block g1)).trans g1); have R2 := Lib.hid ((b.block _ (lt_of_block g2)).trans g2); have B3 := Lib.hid (bt B2 b); obtain ⟨k1, k2, k3, k4⟩ := row2 R1.out; obtain ⟨k5, k6, k7, k8⟩ := row2 R2.out; clear B2 g1 g2 b)
    | (go_at_call 96; (with_reducible refine (J2.out _ (HV.out.below (bel_sc2 (Nat.le_refl _) B3.out))).mono ?_); rintro e w4 ⟨rfl, b⟩
       have g1 := sc_row (.string a) (.string d) R1.out
       have g2 := row_sc2 (v1 := .string a) (v2 := .string d) (Nat.ne_of_lt (Nat.lt_succ_self _)) R2.out
       have R3 := Lib.hid ((b.block _ (lt_of_block g1)).trans g1)
       have R4 := Lib.hid ((b.block _ (lt_of_block g2)).trans g2)
       have B4 := Lib.hid (bt (bel_sc2 (q := w.heap.size) (v1 := .string a) (v2 := .string d) (Nat.le_refl _) B3.out) b)
       obtain ⟨m1, m2, m3, m4⟩ := row2 R3.out
       obtain ⟨m5, m6, m7, m8⟩ := row2 R4.out
       clear g1 g2 b k1 k2 k3 k4 k5 k6 k7 k8))
  refine bodyPost_ret (v := .tuple #[.agg #[.string ⟨#[]⟩, .string ⟨#[]⟩], .agg #[.string ⟨#[]⟩, .string ⟨#[]⟩], .int .i64 c]) (results_cells_tmp rfl _ _ w.heap.size (w.heap.size + 1) 111 #[.string ⟨#[]⟩, .string ⟨#[]⟩] #[.string ⟨#[]⟩, .string ⟨#[]⟩] (0, 0) _ (.int .i64 c) rfl rfl rfl ?_ ?_ Tryz.underlying111 (by kernel_rfl) (by kernel_rfl) (by kernel_rfl)) rfl ⟨rfl, ?_⟩
  · exact row_sc2 (by omega) (sc_row _ _ (row_sc2 (by omega) R3.out))
  · exact sc_row _ _ (row_sc2 (by omega) (sc_row _ _ R4.out))
  · exact bel_sc2 (by omega) (bel_sc2 (by omega) (bel_sc2 (by omega) B4.out))
set_option maxRecDepth 100000 in
set_option maxHeartbeats 1600000 in
theorem parseTwo_ok (a d a2 d2 : ByteArray)
    (H1 : ∀ W, VarR W → Calls Tryz.prog 96 #[.string s] W (PrsR a d 0 W))
    (H2 : ∀ W, VarR W → Calls Tryz.prog 96 #[.string t] W (PrsR a2 d2 0 W)) :
    Calls Tryz.prog 77 #[.string s, .string t] w (TwoF a d a2 d2 0 w) := by
  have J1 := Lib.hid H1
  have J2 := Lib.hid H2
  have HV := Lib.hid hv
  have HR := Lib.hid (fun (w2 : World) => @rows2 w 111 w2)
  clear H1 H2 hv
  go_enter Tryz.func77, Tryz.ntmps77
  go_wp2_with (first
    | (go_at_call 96; obtain ⟨B2, g1, g2⟩ := HR.out _ rfl; (with_reducible refine (J1.out _ (HV.out.below B2)).mono ?_); rintro e w3 ⟨rfl, b⟩; have R1 := Lib.hid ((b.block _ (lt_of_block g1)).trans g1); have R2 := Lib.hid ((b.block _ (lt_of_block g2)).trans g2); have B3 := Lib.hid (bt B2 b); obtain ⟨k1, k2, k3, k4⟩ := row2 R1.out; obtain ⟨k5, k6, k7, k8⟩ := row2 R2.out; clear B2 g1 g2 b)
    | (go_at_call 96; (with_reducible refine (J2.out _ (HV.out.below (bel_sc2 (Nat.le_refl _) B3.out))).mono ?_); rintro e w4 ⟨rfl, b⟩
       have g1 := sc_row (.string a) (.string d) R1.out
       have g2 := row_sc2 (v1 := .string a) (v2 := .string d) (Nat.ne_of_lt (Nat.lt_succ_self _)) R2.out
       have R3 := Lib.hid ((b.block _ (lt_of_block g1)).trans g1)
       have R4 := Lib.hid ((b.block _ (lt_of_block g2)).trans g2)
       have B4 := Lib.hid (bt (bel_sc2 (q := w.heap.size) (v1 := .string a) (v2 := .string d) (Nat.le_refl _) B3.out) b)
       obtain ⟨m1, m2, m3, m4⟩ := row2 R3.out
       obtain ⟨m5, m6, m7, m8⟩ := row2 R4.out
       clear g1 g2 b k1 k2 k3 k4 k5 k6 k7 k8))
  go_region
  go_wp2
  refine bodyPost_ret (v := .tuple #[.agg #[.string a, .string d], .agg #[.string a2, .string d2], .int .i64 0]) (results_cells_tmp rfl _ _ w.heap.size (w.heap.size + 1) 111 #[.string a, .string d] #[.string a2, .string d2] (0, 0) _ (.int .i64 0) rfl rfl rfl ?_ ?_ Tryz.underlying111 (by kernel_rfl) (by kernel_rfl) (by kernel_rfl)) rfl ⟨rfl, ?_⟩
  · exact row_dr (row_sc2 (by omega) (sc_row _ _ (row_sc2 (by omega) R3.out)))
  · exact row_dr (sc_row _ _ (row_sc2 (by omega) (sc_row _ _ R4.out)))
  · exact Below.drew (bel_sc2 (by omega) (bel_sc2 (by omega) (bel_sc2 (by omega) B4.out)))
end
end Go.Proofs.YtnomccgdajcfiaaGreatDoor
/- The walks of layer 2: calculate. -/
namespace Go.Proofs.YtnomccgdajcfiaaGreatDoor
open Go Go.RowKit
set_option maxRecDepth 100000 in
set_option maxHeartbeats 1600000 in
theorem calc_parse (K : Nat) (s t a d a2 d2 : ByteArray) (c : Int) (h0 : ¬ c = 0) (w : World)
    (H : Calls Tryz.prog 77 #[.string s, .string t] w (TwoF a d a2 d2 c w)) :
    Calls Tryz.prog 80 #[.string s, .string t, .func (.func K) #[] #[]] w (StE ⟨#[]⟩ c w) := by
  have J := Lib.hid H
  have hz : (c == 0) = false := by rw [beq_eq_false_iff_ne]; exact h0
  clear H h0
  go_enter Tryz.func80, Tryz.ntmps80
  go_wp2_with (go_at_call 77; refine J.out.mono ?_; rintro e w1 ⟨rfl, b⟩; have B := Lib.hid b; have hs1 := b.size; clear b)
  go_ret2
  exact ⟨rfl, (B.out.alloc hs1 _).alloc (by simp; omega) _⟩
set_option maxRecDepth 100000 in
set_option maxHeartbeats 1600000 in
theorem calc_sum_err (s t a d a2 d2 N D : ByteArray) (c : Int) (h0 : ¬ c = 0) (w : World) (hv : VarT w)
    (H : Calls Tryz.prog 77 #[.string s, .string t] w (TwoF a d a2 d2 0 w))
    (HK : ∀ W, VarT W → Calls Tryz.prog 81 #[.agg #[.string a, .string d], .agg #[.string a2, .string d2]] W (PrsR N D c W)) :
    Calls Tryz.prog 80 #[.string s, .string t, .func (.func 81) #[] #[]] w (StE ⟨#[]⟩ c w) := by
  have J := Lib.hid H
  have JK := Lib.hid HK
  have HV := Lib.hid hv
  have hz : (c == 0) = false := by rw [beq_eq_false_iff_ne]; exact h0
  clear H HK h0 hv
  go_enter Tryz.func80, Tryz.ntmps80
  go_wp2_with (first
    | (go_at_call 77; refine J.out.mono ?_; rintro e w1 ⟨rfl, b⟩; have B1 := Lib.hid (fun o o' => (b.alloc b.size o).alloc (by simp; have := b.size; omega) o'); clear b)
    | (go_at_call 81; refine (JK.out _ (HV.out.below (B1.out _ _))).mono ?_; rintro e w2 ⟨rfl, b⟩; have B2 := Lib.hid (bt (B1.out (.cells #[.string a, .string d] 111) (.cells #[.string a2, .string d2] 111)) b); clear b))
  go_ret2
  exact ⟨rfl, B2.out.alloc B2.out.size _⟩
set_option maxRecDepth 100000 in
set_option maxHeartbeats 1600000 in
theorem calc_sum_ok (s t a d a2 d2 N D R : ByteArray) (w : World) (hv : VarT w)
    (H : Calls Tryz.prog 77 #[.string s, .string t] w (TwoF a d a2 d2 0 w))
    (HK : ∀ W, VarT W → Calls Tryz.prog 81 #[.agg #[.string a, .string d], .agg #[.string a2, .string d2]] W (PrsR N D 0 W))
    (HX : ∀ W, Calls Tryz.prog 123 #[.agg #[.string N, .string D]] W (StrR R W)) :
    Calls Tryz.prog 80 #[.string s, .string t, .func (.func 81) #[] #[]] w (StE R 0 w) := by
  have J := Lib.hid H
  have JK := Lib.hid HK
  have JX := Lib.hid HX
  have HV := Lib.hid hv
  clear H HK HX hv
  go_enter Tryz.func80, Tryz.ntmps80
  go_wp2_with (first
    | (go_at_call 77; refine J.out.mono ?_; rintro e w1 ⟨rfl, b⟩; have B1 := Lib.hid (fun o o' => (b.alloc b.size o).alloc (by simp; have := b.size; omega) o'); clear b)
    | (go_at_call 81; refine (JK.out _ (HV.out.below (B1.out _ _))).mono ?_; rintro e w2 ⟨rfl, b⟩; have B2 := Lib.hid (bt (B1.out (.cells #[.string a, .string d] 111) (.cells #[.string a2, .string d2] 111)) b); clear b)
    | (go_at_call 123; refine (JX.out _).mono ?_; rintro e w3 ⟨rfl, b⟩; have B3 := Lib.hid (bt (B2.out.alloc B2.out.size (.cells #[.string N, .string D] 111)) b); clear b))
  go_ret2
  exact ⟨rfl, B3.out⟩
set_option maxRecDepth 100000 in
set_option maxHeartbeats 1600000 in
theorem calc_difference_err (s t a d a2 d2 N D : ByteArray) (c : Int) (h0 : ¬ c = 0) (w : World) (hv : VarT w)
    (H : Calls Tryz.prog 77 #[.string s, .string t] w (TwoF a d a2 d2 0 w))
    (HK : ∀ W, VarT W → Calls Tryz.prog 82 #[.agg #[.string a, .string d], .agg #[.string a2, .string d2]] W (PrsR N D c W)) :
    Calls Tryz.prog 80 #[.string s, .string t, .func (.func 82) #[] #[]] w (StE ⟨#[]⟩ c w) := by
  have J := Lib.hid H
  have JK := Lib.hid HK
  have HV := Lib.hid hv
  have hz : (c == 0) = false := by rw [beq_eq_false_iff_ne]; exact h0
  clear H HK h0 hv
  go_enter Tryz.func80, Tryz.ntmps80
  go_wp2_with (first
    | (go_at_call 77; refine J.out.mono ?_; rintro e w1 ⟨rfl, b⟩; have B1 := Lib.hid (fun o o' => (b.alloc b.size o).alloc (by simp; have := b.size; omega) o'); clear b)
    | (go_at_call 82; refine (JK.out _ (HV.out.below (B1.out _ _))).mono ?_; rintro e w2 ⟨rfl, b⟩; have B2 := Lib.hid (bt (B1.out (.cells #[.string a, .string d] 111) (.cells #[.string a2, .string d2] 111)) b); clear b))
  go_ret2
  exact ⟨rfl, B2.out.alloc B2.out.size _⟩
set_option maxRecDepth 100000 in
set_option maxHeartbeats 1600000 in
theorem calc_difference_ok (s t a d a2 d2 N D R : ByteArray) (w : World) (hv : VarT w)
    (H : Calls Tryz.prog 77 #[.string s, .string t] w (TwoF a d a2 d2 0 w))
    (HK : ∀ W, VarT W → Calls Tryz.prog 82 #[.agg #[.string a, .string d], .agg #[.string a2, .string d2]] W (PrsR N D 0 W))
    (HX : ∀ W, Calls Tryz.prog 123 #[.agg #[.string N, .string D]] W (StrR R W)) :
    Calls Tryz.prog 80 #[.string s, .string t, .func (.func 82) #[] #[]] w (StE R 0 w) := by
  have J := Lib.hid H
  have JK := Lib.hid HK
  have JX := Lib.hid HX
  have HV := Lib.hid hv
  clear H HK HX hv
  go_enter Tryz.func80, Tryz.ntmps80
  go_wp2_with (first
    | (go_at_call 77; refine J.out.mono ?_; rintro e w1 ⟨rfl, b⟩; have B1 := Lib.hid (fun o o' => (b.alloc b.size o).alloc (by simp; have := b.size; omega) o'); clear b)
    | (go_at_call 82; refine (JK.out _ (HV.out.below (B1.out _ _))).mono ?_; rintro e w2 ⟨rfl, b⟩; have B2 := Lib.hid (bt (B1.out (.cells #[.string a, .string d] 111) (.cells #[.string a2, .string d2] 111)) b); clear b)
    | (go_at_call 123; refine (JX.out _).mono ?_; rintro e w3 ⟨rfl, b⟩; have B3 := Lib.hid (bt (B2.out.alloc B2.out.size (.cells #[.string N, .string D] 111)) b); clear b))
  go_ret2
  exact ⟨rfl, B3.out⟩
set_option maxRecDepth 100000 in
set_option maxHeartbeats 1600000 in
theorem calc_product_err (s t a d a2 d2 N D : ByteArray) (c : Int) (h0 : ¬ c = 0) (w : World) (hv : VarT w)
    (H : Calls Tryz.prog 77 #[.string s, .string t] w (TwoF a d a2 d2 0 w))
    (HK : ∀ W, VarT W → Calls Tryz.prog 83 #[.agg #[.string a, .string d], .agg #[.string a2, .string d2]] W (PrsR N D c W)) :
    Calls Tryz.prog 80 #[.string s, .string t, .func (.func 83) #[] #[]] w (StE ⟨#[]⟩ c w) := by
  have J := Lib.hid H
  have JK := Lib.hid HK
  have HV := Lib.hid hv
  have hz : (c == 0) = false := by rw [beq_eq_false_iff_ne]; exact h0
  clear H HK h0 hv
  go_enter Tryz.func80, Tryz.ntmps80
  go_wp2_with (first
    | (go_at_call 77; refine J.out.mono ?_; rintro e w1 ⟨rfl, b⟩; have B1 := Lib.hid (fun o o' => (b.alloc b.size o).alloc (by simp; have := b.size; omega) o'); clear b)
    | (go_at_call 83; refine (JK.out _ (HV.out.below (B1.out _ _))).mono ?_; rintro e w2 ⟨rfl, b⟩; have B2 := Lib.hid (bt (B1.out (.cells #[.string a, .string d] 111) (.cells #[.string a2, .string d2] 111)) b); clear b))
  go_ret2
  exact ⟨rfl, B2.out.alloc B2.out.size _⟩
set_option maxRecDepth 100000 in
set_option maxHeartbeats 1600000 in
theorem calc_product_ok (s t a d a2 d2 N D R : ByteArray) (w : World) (hv : VarT w)
    (H : Calls Tryz.prog 77 #[.string s, .string t] w (TwoF a d a2 d2 0 w))
    (HK : ∀ W, VarT W → Calls Tryz.prog 83 #[.agg #[.string a, .string d], .agg #[.string a2, .string d2]] W (PrsR N D 0 W))
    (HX : ∀ W, Calls Tryz.prog 123 #[.agg #[.string N, .string D]] W (StrR R W)) :
    Calls Tryz.prog 80 #[.string s, .string t, .func (.func 83) #[] #[]] w (StE R 0 w) := by
  have J := Lib.hid H
  have JK := Lib.hid HK
  have JX := Lib.hid HX
  have HV := Lib.hid hv
  clear H HK HX hv
  go_enter Tryz.func80, Tryz.ntmps80
  go_wp2_with (first
    | (go_at_call 77; refine J.out.mono ?_; rintro e w1 ⟨rfl, b⟩; have B1 := Lib.hid (fun o o' => (b.alloc b.size o).alloc (by simp; have := b.size; omega) o'); clear b)
    | (go_at_call 83; refine (JK.out _ (HV.out.below (B1.out _ _))).mono ?_; rintro e w2 ⟨rfl, b⟩; have B2 := Lib.hid (bt (B1.out (.cells #[.string a, .string d] 111) (.cells #[.string a2, .string d2] 111)) b); clear b)
    | (go_at_call 123; refine (JX.out _).mono ?_; rintro e w3 ⟨rfl, b⟩; have B3 := Lib.hid (bt (B2.out.alloc B2.out.size (.cells #[.string N, .string D] 111)) b); clear b))
  go_ret2
  exact ⟨rfl, B3.out⟩
end Go.Proofs.YtnomccgdajcfiaaGreatDoor
/- The walks of layer 2: the operations on rationals: sums, differences, products, quotients. -/
namespace Go.Proofs.YtnomccgdajcfiaaGreatDoor
open Go Go.RowKit
set_option maxRecDepth 100000 in
set_option maxHeartbeats 1600000 in
theorem sum_walk (an ad bn bd N D : ByteArray) (c : Int) (w : World) (hv : VarT w)
    (H : ∀ W, VarT W → Calls Tryz.prog 124 #[.agg #[.string an, .string ad], .agg #[.string bn, .string bd], .func (.func 125) #[] #[]] W (PrsR N D c W)) :
    Calls Tryz.prog 81 #[.agg #[.string an, .string ad], .agg #[.string bn, .string bd]] w (PrsR N D c w) := by
  have J := Lib.hid H
  have HV := Lib.hid hv
  have HR := Lib.hid (fun (w3 : World) => @rows3 w (.string an) (.string ad) (.string bn) (.string bd) 111 w3)
  clear H hv
  go_enter Tryz.func81, Tryz.ntmps81
  go_wp2_with (go_at_call 124; obtain ⟨B3, _, _, _, _, _, k5⟩ := HR.out _ rfl; refine (J.out _ (HV.out.below B3)).mono ?_; rintro e w4 ⟨rfl, b⟩; have R := (b.block _ (lt_of_block k5)).trans k5; obtain ⟨m1, m2, m3, m4⟩ := row2 R; have HK := Lib.hid R; have B4 := Lib.hid (bt B3 b); clear R B3 b k5)
  refine bodyPost_ret (v := .tuple #[.agg #[.string N, .string D], .int .i64 c]) (results_cell_tmp rfl _ _ (w.heap.size + 1 + 1) 111 #[.string N, .string D] (0, 0) _ (.int .i64 c) rfl rfl (sc_row _ _ HK.out) Tryz.underlying111 (by kernel_rfl) (by kernel_rfl)) rfl ⟨rfl, bel_sc2 (by omega) B4.out⟩
set_option maxRecDepth 100000 in
set_option maxHeartbeats 1600000 in
theorem difference_walk (an ad bn bd N D : ByteArray) (c : Int) (w : World) (hv : VarT w)
    (H : ∀ W, VarT W → Calls Tryz.prog 124 #[.agg #[.string an, .string ad], .agg #[.string bn, .string bd], .func (.func 126) #[] #[]] W (PrsR N D c W)) :
    Calls Tryz.prog 82 #[.agg #[.string an, .string ad], .agg #[.string bn, .string bd]] w (PrsR N D c w) := by
  have J := Lib.hid H
  have HV := Lib.hid hv
  have HR := Lib.hid (fun (w3 : World) => @rows3 w (.string an) (.string ad) (.string bn) (.string bd) 111 w3)
  clear H hv
  go_enter Tryz.func82, Tryz.ntmps82
  go_wp2_with (go_at_call 124; obtain ⟨B3, _, _, _, _, _, k5⟩ := HR.out _ rfl; refine (J.out _ (HV.out.below B3)).mono ?_; rintro e w4 ⟨rfl, b⟩; have R := (b.block _ (lt_of_block k5)).trans k5; obtain ⟨m1, m2, m3, m4⟩ := row2 R; have HK := Lib.hid R; have B4 := Lib.hid (bt B3 b); clear R B3 b k5)
  refine bodyPost_ret (v := .tuple #[.agg #[.string N, .string D], .int .i64 c]) (results_cell_tmp rfl _ _ (w.heap.size + 1 + 1) 111 #[.string N, .string D] (0, 0) _ (.int .i64 c) rfl rfl (sc_row _ _ HK.out) Tryz.underlying111 (by kernel_rfl) (by kernel_rfl)) rfl ⟨rfl, bel_sc2 (by omega) B4.out⟩
theorem chk_rep {x y : Int} (hx : x.natAbs < lim) (hy : y.natAbs < lim) : bothE (Lib.itoa x) (Lib.itoa y) = 0 := by unfold bothE; rw [if_pos (chk_of_abs hx)]; exact chk_of_abs hy
theorem add_lims {x y : Int} (hx : x.natAbs < lim) (hy : y.natAbs < lim) (w : World) (hv : VarT w) :
    Calls Tryz.prog 125 #[.string (rep x), .string (rep y)] w (StE (if LB (x + y) = true then rep (x + y) else ⟨#[]⟩) (if LB (x + y) = true then 0 else 14) w) := by
  have h := add_any (rep x) (rep y) (rep_size hx) (rep_size hy) w hv
  rw [rep_data, rep_data, opS_ok (chk_rep hx hy), num_itoa, num_itoa] at h
  unfold limS at h
  cases hl : LB (x + y)
  · rw [if_neg (LB_false hl)] at h
    exact h
  · rw [if_pos (LB_true.1 hl)] at h
    exact h
theorem sub_lims {x y : Int} (hx : x.natAbs < lim) (hy : y.natAbs < lim) (w : World) (hv : VarT w) :
    Calls Tryz.prog 126 #[.string (rep x), .string (rep y)] w (StE (if LB (x - y) = true then rep (x - y) else ⟨#[]⟩) (if LB (x - y) = true then 0 else 14) w) := by
  have h := sub_any (rep x) (rep y) (rep_size hx) (rep_size hy) w hv
  rw [rep_data, rep_data, opS_ok (chk_rep hx hy), num_itoa, num_itoa] at h
  unfold limS at h
  cases hl : LB (x - y)
  · rw [if_neg (LB_false hl)] at h
    exact h
  · rw [if_pos (LB_true.1 hl)] at h
    exact h
set_option maxHeartbeats 800000 in
theorem sum_q (a b : Rat) (ha : Sml a) (hb : Sml b) (w : World) (hv : VarT w) :
    Calls Tryz.prog 81 #[.agg #[.string (rep a.num), .string (rep (a.den : Int))], .agg #[.string (rep b.num), .string (rep (b.den : Int))]] w (PrsR (nT (addC a b) (a + b)) (dT (addC a b) (a + b)) (addC a b) w) := by
  have H1 := fun W hW => mul_lims ha.1 hb.2 _ _ rfl rfl _ _ rfl rfl W hW
  have H2 := fun W hW => mul_lims hb.1 ha.2 _ _ rfl rfl _ _ rfl rfl W hW
  have H3 := fun W hW => mul_lims ha.2 hb.2 _ _ rfl rfl _ _ rfl rfl W hW
  refine sum_walk _ _ _ _ _ _ _ w hv fun W hW => ?_
  cases h1 : LB (a.num * (b.den : Int)) <;> cases h2 : LB (b.num * (a.den : Int)) <;> cases h3 : LB ((a.den : Int) * (b.den : Int))
  all_goals
    rw [h1] at H1
    rw [h2] at H2
    rw [h3] at H3
    simp only [if_true, Bool.false_eq_true, if_false] at H1 H2 H3
  case true.true.true =>
    have H4 := fun W hW => add_lims (LB_true.1 h1) (LB_true.1 h2) W hW
    cases h4 : LB (a.num * (b.den : Int) + b.num * (a.den : Int))
    all_goals
      rw [h4] at H4
      simp only [if_true, Bool.false_eq_true, if_false] at H4
    · have e : addC a b = 14 := by unfold addC; rw [h1, h2, h3, h4]; rfl
      rw [e, nT_err (by decide), dT_err (by decide)]
      exact combined_add_jerr _ _ _ _ _ _ _ _ 14 (by decide) W hW H1 H2 H3 H4
    · have e : addC a b = 0 := by unfold addC; rw [h1, h2, h3, h4]; rfl
      rw [e, nT_ok, dT_ok]
      exact combined_add_ok _ _ _ _ _ _ _ _ _ _ W hW H1 H2 H3 H4 (fun W hW => reduced_q (LB_true.1 h4) (LB_true.1 h3) (den_mul_ne a b) (rat_add a b).symm _ _ rfl rfl W hW)
  all_goals
    have e : addC a b = 14 := by unfold addC; rw [h1, h2, h3]; rfl
    rw [e, nT_err (by decide), dT_err (by decide)]
    exact combined_err _ _ _ _ _ _ _ _ _ _ _ _ 14 rfl rfl (by decide) W hW H1 H2 H3
set_option maxHeartbeats 800000 in
theorem difference_q (a b : Rat) (ha : Sml a) (hb : Sml b) (w : World) (hv : VarT w) :
    Calls Tryz.prog 82 #[.agg #[.string (rep a.num), .string (rep (a.den : Int))], .agg #[.string (rep b.num), .string (rep (b.den : Int))]] w (PrsR (nT (subC a b) (a - b)) (dT (subC a b) (a - b)) (subC a b) w) := by
  have H1 := fun W hW => mul_lims ha.1 hb.2 _ _ rfl rfl _ _ rfl rfl W hW
  have H2 := fun W hW => mul_lims hb.1 ha.2 _ _ rfl rfl _ _ rfl rfl W hW
  have H3 := fun W hW => mul_lims ha.2 hb.2 _ _ rfl rfl _ _ rfl rfl W hW
  refine difference_walk _ _ _ _ _ _ _ w hv fun W hW => ?_
  cases h1 : LB (a.num * (b.den : Int)) <;> cases h2 : LB (b.num * (a.den : Int)) <;> cases h3 : LB ((a.den : Int) * (b.den : Int))
  all_goals
    rw [h1] at H1
    rw [h2] at H2
    rw [h3] at H3
    simp only [if_true, Bool.false_eq_true, if_false] at H1 H2 H3
  case true.true.true =>
    have H4 := fun W hW => sub_lims (LB_true.1 h1) (LB_true.1 h2) W hW
    cases h4 : LB (a.num * (b.den : Int) - b.num * (a.den : Int))
    all_goals
      rw [h4] at H4
      simp only [if_true, Bool.false_eq_true, if_false] at H4
    · have e : subC a b = 14 := by unfold subC; rw [h1, h2, h3, h4]; rfl
      rw [e, nT_err (by decide), dT_err (by decide)]
      exact combined_sub_jerr _ _ _ _ _ _ _ _ 14 (by decide) W hW H1 H2 H3 H4
    · have e : subC a b = 0 := by unfold subC; rw [h1, h2, h3, h4]; rfl
      rw [e, nT_ok, dT_ok]
      exact combined_sub_ok _ _ _ _ _ _ _ _ _ _ W hW H1 H2 H3 H4 (fun W hW => reduced_q (LB_true.1 h4) (LB_true.1 h3) (den_mul_ne a b) (rat_sub a b).symm _ _ rfl rfl W hW)
  all_goals
    have e : subC a b = 14 := by unfold subC; rw [h1, h2, h3]; rfl
    rw [e, nT_err (by decide), dT_err (by decide)]
    exact combined_err _ _ _ _ _ _ _ _ _ _ _ _ 14 rfl rfl (by decide) W hW H1 H2 H3
theorem product_z {x y x2 y2 : Int} {q : Rat} (hx : x.natAbs < lim) (hy : y.natAbs < lim) (hx2 : x2.natAbs < lim) (hy2 : y2.natAbs < lim) (h0 : y * y2 ≠ 0) (hq : Rat.divInt (x * x2) (y * y2) = q) (c : Int) (hc : (if LB (x * x2) && LB (y * y2) then 0 else 14) = c) (w : World) (hv : VarT w) :
    Calls Tryz.prog 83 #[.agg #[.string (rep x), .string (rep y)], .agg #[.string (rep x2), .string (rep y2)]] w (PrsR (nT c q) (dT c q) c w) := by
  subst hc
  have H1 := fun W hW => mul_lims hx hx2 _ _ rfl rfl _ _ rfl rfl W hW
  have H2 := fun W hW => mul_lims hy hy2 _ _ rfl rfl _ _ rfl rfl W hW
  cases h1 : LB (x * x2) <;> cases h2 : LB (y * y2)
  all_goals
    rw [h1] at H1
    rw [h2] at H2
    simp only [if_true, Bool.false_eq_true, if_false] at H1 H2
  case true.true =>
    show Calls _ _ _ _ (PrsR (nT 0 q) (dT 0 q) 0 w)
    rw [nT_ok, dT_ok]
    exact product_ok _ _ _ _ _ _ _ _ w hv H1 H2 (fun W hW => reduced_q (LB_true.1 h1) (LB_true.1 h2) h0 hq _ _ rfl rfl W hW)
  all_goals
    show Calls _ _ _ _ (PrsR (nT 14 q) (dT 14 q) 14 w)
    rw [nT_err (by decide), dT_err (by decide)]
    exact product_err _ _ _ _ _ _ _ _ 14 rfl (by decide) w hv H1 H2
theorem product_q (a b : Rat) (ha : Sml a) (hb : Sml b) (w : World) (hv : VarT w) :
    Calls Tryz.prog 83 #[.agg #[.string (rep a.num), .string (rep (a.den : Int))], .agg #[.string (rep b.num), .string (rep (b.den : Int))]] w (PrsR (nT (mulC a b) (a * b)) (dT (mulC a b) (a * b)) (mulC a b) w) :=
  product_z ha.1 ha.2 hb.1 hb.2 (den_mul_ne a b) (rat_mul a b).symm _ rfl w hv
end Go.Proofs.YtnomccgdajcfiaaGreatDoor
/- Joined: RatAa, RatAb. -/
/- The walks of layer 2: Check, Add, Sub, Mul, Div, Compare on texts. -/
namespace Go.Proofs.YtnomccgdajcfiaaGreatDoor
open Go Go.RowKit
theorem rq_size {q : Rat} (h : Sml q) : (rq q).size ≤ 2003 := by
  have h1 := len_of_chk (chk_of_abs h.1)
  have h2 := len_of_chk (chk_of_abs h.2)
  rw [Lib.size_eq, rq_data]
  unfold txtL
  split <;> simp <;> omega
theorem parse_q (q : Rat) (h : Sml q) (w : World) (hv : VarR w) :
    Calls Tryz.prog 96 #[.string (rq q)] w (PrsR (rep q.num) (rep (q.den : Int)) 0 w) := by
  have hp := parse_rat (rq q) (by have := rq_size h; omega) w hv
  obtain ⟨p1, p2⟩ := parS_ok (rq_chk h)
  rw [p1, p2, rq_chk h, rq_nB, rq_dB] at hp
  exact hp
theorem parse_e (s : ByteArray) (hs : s.size ≤ 1048576) (h : ¬ chkR s.data.toList = 0) (w : World) (hv : VarR w) :
    Calls Tryz.prog 96 #[.string s] w (PrsR ⟨#[]⟩ ⟨#[]⟩ (chkR s.data.toList) w) := by
  have hp := parse_rat s hs w hv
  obtain ⟨p1, p2⟩ := parS_err rfl h
  rw [p1, p2] at hp
  exact hp
theorem text_q (q : Rat) (h : Sml q) (w : World) :
    Calls Tryz.prog 123 #[.agg #[.string (rep q.num), .string (rep (q.den : Int))]] w (StrR (rq q) w) := by
  have h1 := len_of_chk (chk_of_abs h.1)
  have h2 := len_of_chk (chk_of_abs h.2)
  exact rtext_is (rep q.num) (rep (q.den : Int)) _ _ (rep_data _) (rep_data _) (by omega) (by omega) w
theorem addC_sml {a b : Rat} (h : addC a b = 0) : Sml (a + b) := (addC_ok h).2.2.2.2
theorem subC_sml {a b : Rat} (h : subC a b = 0) : Sml (a - b) := (subC_ok h).2.2.2.2
theorem mulC_sml {a b : Rat} (h : mulC a b = 0) : Sml (a * b) := (mulC_ok h).2.2
theorem text_cases (s : ByteArray) : ¬ chkR s.data.toList = 0 ∨ ∃ q, s = rq q ∧ Sml q := by
  by_cases h : chkR s.data.toList = 0
  · obtain ⟨q, h1, _, _, h2⟩ := rq_of h; exact .inr ⟨q, h1, h2⟩
  · exact .inl h
set_option maxRecDepth 100000 in
set_option maxHeartbeats 1600000 in
theorem rcheck_any (s : ByteArray) (hs : s.size ≤ 1048576) (w : World) (hv : VarR w) :
    Calls Tryz.prog 54 #[.string s] w (IntB (chkR s.data.toList) w) := by
  have HP := Lib.hid (parse_rat s hs w hv)
  generalize (⟨(parS s.data.toList).1.toArray⟩ : ByteArray) = N at *
  generalize (⟨(parS s.data.toList).2.toArray⟩ : ByteArray) = D at *
  generalize chkR s.data.toList = c at *
  clear hv hs
  go_enter Tryz.func54, Tryz.ntmps54
  go_wp2_with (go_at_call 96; refine HP.out.mono ?_; rintro e w1 ⟨rfl, b1⟩)
  go_ret
  exact ⟨rfl, b1.alloc b1.size _⟩
theorem radd_walk (s t R : ByteArray) (c : Int) (w : World)
    (H : Calls Tryz.prog 80 #[.string s, .string t, .func (.func 81) #[] #[]] w (StE R c w)) :
    Calls Tryz.prog 40 #[.string s, .string t] w (StE R c w) := by
  have J := Lib.hid H
  clear H
  go_enter Tryz.func40, Tryz.ntmps40
  go_wp2_with (go_at_call 80; refine J.out.mono ?_; rintro e w1 ⟨rfl, b⟩; have B := Lib.hid b; clear b)
  go_ret2
  exact ⟨rfl, B.out⟩
theorem radd_any (s t : ByteArray) (hs : s.size ≤ 1048576) (ht : t.size ≤ 1048576) (w : World) (hv : VarR w) :
    Calls Tryz.prog 40 #[.string s, .string t] w (StE (twT addC (· + ·) s.data.toList t.data.toList) (twC addC s.data.toList t.data.toList) w) := by
  refine radd_walk s t _ _ w ?_
  rcases text_cases s with h1 | ⟨a, rfl, ha⟩
  · unfold twT
    rw [twC_l h1, qT_err h1]
    exact calc_parse _ _ _ _ _ _ _ _ h1 w (parseTwo_one s t w hv _ _ _ h1 (fun W hW => parse_e s hs h1 W hW))
  rcases text_cases t with h2 | ⟨b, rfl, hb⟩
  · unfold twT
    rw [twC_r (rq_chk ha) h2, qT_err h2]
    exact calc_parse _ _ _ _ _ _ _ _ h2 w (parseTwo_two _ t w hv _ _ _ _ _ h2 (fun W hW => parse_q a ha W hW) (fun W hW => parse_e t ht h2 W hW))
  rw [twT_rq ha hb, twC_rq ha hb]
  have HT := parseTwo_ok (rq a) (rq b) w hv _ _ _ _ (fun W hW => parse_q a ha W hW) (fun W hW => parse_q b hb W hW)
  by_cases h0 : addC a b = 0
  · have HK := fun W hW => sum_q a b ha hb W hW
    rw [h0, nT_ok, dT_ok] at HK
    rw [h0, qT_ok]
    exact calc_sum_ok _ _ _ _ _ _ _ _ _ w hv.t HT HK (fun W => text_q _ (addC_sml h0) W)
  · rw [qT_err h0]
    exact calc_sum_err _ _ _ _ _ _ _ _ _ h0 w hv.t HT (fun W hW => sum_q a b ha hb W hW)
theorem rsub_walk (s t R : ByteArray) (c : Int) (w : World)
    (H : Calls Tryz.prog 80 #[.string s, .string t, .func (.func 82) #[] #[]] w (StE R c w)) :
    Calls Tryz.prog 41 #[.string s, .string t] w (StE R c w) := by
  have J := Lib.hid H
  clear H
  go_enter Tryz.func41, Tryz.ntmps41
  go_wp2_with (go_at_call 80; refine J.out.mono ?_; rintro e w1 ⟨rfl, b⟩; have B := Lib.hid b; clear b)
  go_ret2
  exact ⟨rfl, B.out⟩
theorem rsub_any (s t : ByteArray) (hs : s.size ≤ 1048576) (ht : t.size ≤ 1048576) (w : World) (hv : VarR w) :
    Calls Tryz.prog 41 #[.string s, .string t] w (StE (twT subC (· - ·) s.data.toList t.data.toList) (twC subC s.data.toList t.data.toList) w) := by
  refine rsub_walk s t _ _ w ?_
  rcases text_cases s with h1 | ⟨a, rfl, ha⟩
  · unfold twT
    rw [twC_l h1, qT_err h1]
    exact calc_parse _ _ _ _ _ _ _ _ h1 w (parseTwo_one s t w hv _ _ _ h1 (fun W hW => parse_e s hs h1 W hW))
  rcases text_cases t with h2 | ⟨b, rfl, hb⟩
  · unfold twT
    rw [twC_r (rq_chk ha) h2, qT_err h2]
    exact calc_parse _ _ _ _ _ _ _ _ h2 w (parseTwo_two _ t w hv _ _ _ _ _ h2 (fun W hW => parse_q a ha W hW) (fun W hW => parse_e t ht h2 W hW))
  rw [twT_rq ha hb, twC_rq ha hb]
  have HT := parseTwo_ok (rq a) (rq b) w hv _ _ _ _ (fun W hW => parse_q a ha W hW) (fun W hW => parse_q b hb W hW)
  by_cases h0 : subC a b = 0
  · have HK := fun W hW => difference_q a b ha hb W hW
    rw [h0, nT_ok, dT_ok] at HK
    rw [h0, qT_ok]
    exact calc_difference_ok _ _ _ _ _ _ _ _ _ w hv.t HT HK (fun W => text_q _ (subC_sml h0) W)
  · rw [qT_err h0]
    exact calc_difference_err _ _ _ _ _ _ _ _ _ h0 w hv.t HT (fun W hW => difference_q a b ha hb W hW)
theorem rmul_walk (s t R : ByteArray) (c : Int) (w : World)
    (H : Calls Tryz.prog 80 #[.string s, .string t, .func (.func 83) #[] #[]] w (StE R c w)) :
    Calls Tryz.prog 42 #[.string s, .string t] w (StE R c w) := by
  have J := Lib.hid H
  clear H
  go_enter Tryz.func42, Tryz.ntmps42
  go_wp2_with (go_at_call 80; refine J.out.mono ?_; rintro e w1 ⟨rfl, b⟩; have B := Lib.hid b; clear b)
  go_ret2
  exact ⟨rfl, B.out⟩
theorem rmul_any (s t : ByteArray) (hs : s.size ≤ 1048576) (ht : t.size ≤ 1048576) (w : World) (hv : VarR w) :
    Calls Tryz.prog 42 #[.string s, .string t] w (StE (twT mulC (· * ·) s.data.toList t.data.toList) (twC mulC s.data.toList t.data.toList) w) := by
  refine rmul_walk s t _ _ w ?_
  rcases text_cases s with h1 | ⟨a, rfl, ha⟩
  · unfold twT
    rw [twC_l h1, qT_err h1]
    exact calc_parse _ _ _ _ _ _ _ _ h1 w (parseTwo_one s t w hv _ _ _ h1 (fun W hW => parse_e s hs h1 W hW))
  rcases text_cases t with h2 | ⟨b, rfl, hb⟩
  · unfold twT
    rw [twC_r (rq_chk ha) h2, qT_err h2]
    exact calc_parse _ _ _ _ _ _ _ _ h2 w (parseTwo_two _ t w hv _ _ _ _ _ h2 (fun W hW => parse_q a ha W hW) (fun W hW => parse_e t ht h2 W hW))
  rw [twT_rq ha hb, twC_rq ha hb]
  have HT := parseTwo_ok (rq a) (rq b) w hv _ _ _ _ (fun W hW => parse_q a ha W hW) (fun W hW => parse_q b hb W hW)
  by_cases h0 : mulC a b = 0
  · have HK := fun W hW => product_q a b ha hb W hW
    rw [h0, nT_ok, dT_ok] at HK
    rw [h0, qT_ok]
    exact calc_product_ok _ _ _ _ _ _ _ _ _ w hv.t HT HK (fun W => text_q _ (mulC_sml h0) W)
  · rw [qT_err h0]
    exact calc_product_err _ _ _ _ _ _ _ _ _ h0 w hv.t HT (fun W hW => product_q a b ha hb W hW)
end Go.Proofs.YtnomccgdajcfiaaGreatDoor
/- The walks of layer 2: Compare. -/
namespace Go.Proofs.YtnomccgdajcfiaaGreatDoor
open Go Go.RowKit
def CmE (r c : Int) (w : World) (e : Ending) (w' : World) : Prop := e = .returned (.tuple #[.int .i64 r, .int .i64 c]) ∧ Below w.heap.size w w'
theorem rows4c (w : World) (a b c d : Value) (t te tp : TypeId) (hv : VarT w) {w5 : World}
    (h5 : ((((w.alloc (.cells #[a, b] t (0, 0))).alloc (.cells #[c, d] t (0, 0))).alloc (.cells #[.int .i64 0] te (0, 0))).alloc (.cells #[.pointer (some ⟨w.heap.size + 1 + 1, 0, none⟩)] tp (0, 0))) = w5) :
    Clo w (w.heap.size + 1 + 1 + 1) (w.heap.size + 1 + 1) 0 w5 ∧
    w5.cell? ⟨w.heap.size, 0, none⟩ = some a ∧ w5.cell? ⟨w.heap.size, 1, none⟩ = some b ∧ w5.cell? ⟨w.heap.size + 1, 0, none⟩ = some c ∧ w5.cell? ⟨w.heap.size + 1, 1, none⟩ = some d := by
  have hh : w5.heap = ((((w.heap.push (.cells #[a, b] t (0, 0))).push (.cells #[c, d] t (0, 0))).push (.cells #[.int .i64 0] te (0, 0))).push (.cells #[.pointer (some ⟨w.heap.size + 1 + 1, 0, none⟩)] tp (0, 0))) := by subst h5; rfl
  have B : Below w.heap.size w w5 := by
    subst h5
    exact ((((Below.refl _ w).alloc (Nat.le_refl _) _).alloc (by simp) _).alloc (by simp; omega) _).alloc (by simp; omega) _
  clear h5
  have g0 : w5.heap[w.heap.size]? = some (.cells #[a, b] t (0, 0)) := by
    rw [hh]; simp only [Array.getElem?_push, Array.size_push]
    rw [if_neg (by omega), if_neg (by omega), if_neg (by omega), if_pos trivial]
  have g1 : w5.heap[w.heap.size + 1]? = some (.cells #[c, d] t (0, 0)) := by
    rw [hh]; simp only [Array.getElem?_push, Array.size_push]
    rw [if_neg (by omega), if_neg (by omega), if_pos trivial]
  have g3 : w5.heap[w.heap.size + 1 + 1]? = some (.cells #[.int .i64 0] te (0, 0)) := by
    rw [hh]; simp only [Array.getElem?_push, Array.size_push]
    rw [if_neg (by omega), if_pos trivial]
  have g4 : w5.heap[w.heap.size + 1 + 1 + 1]? = some (.cells #[.pointer (some ⟨w.heap.size + 1 + 1, 0, none⟩)] tp (0, 0)) := by
    rw [hh]; simp only [Array.getElem?_push, Array.size_push]
    rw [if_pos trivial]
  clear hh
  obtain ⟨k1, k2, _, _⟩ := row2 g0
  obtain ⟨k3, k4, _, _⟩ := row2 g1
  refine ⟨⟨B, hv.below B, ?_, ?_, ?_⟩, k1, k2, k3, k4⟩
  · simp only [World.cell?, g4]; rfl
  · simp only [World.cell?, g3]; rfl
  · simp only [World.frozen?, g3]; rfl
set_option maxRecDepth 100000 in
set_option maxHeartbeats 3200000 in
theorem compare_parse (s t a d a2 d2 : ByteArray) (c : Int) (h0 : ¬ c = 0) (w : World)
    (H : Calls Tryz.prog 77 #[.string s, .string t] w (TwoF a d a2 d2 c w)) :
    Calls Tryz.prog 39 #[.string s, .string t] w (CmE 0 c w) := by
  have J := Lib.hid H
  have hz : (c == 0) = false := by rw [beq_eq_false_iff_ne]; exact h0
  clear H h0
  go_enter Tryz.func39, Tryz.ntmps39
  go_wp2_with (go_at_call 77; refine J.out.mono ?_; rintro e w1 ⟨rfl, b⟩; have B := Lib.hid b; have hs1 := b.size; clear b)
  go_region
  go_wp2
  go_ret2
  exact ⟨rfl, Below.drew (((B.out.alloc hs1 _).alloc (by simp; omega) _).alloc (by simp; omega) _)⟩
set_option maxRecDepth 100000 in
set_option maxHeartbeats 3200000 in
theorem compare_err (s t an ad bn bd r1 r2 : ByteArray) (c1 c2 c : Int) (hc : (if c1 = 0 then c2 else c1) = c) (h0 : ¬ c = 0) (w : World) (hv : VarT w)
    (H : Calls Tryz.prog 77 #[.string s, .string t] w (TwoF an ad bn bd 0 w))
    (H1 : ∀ W, VarT W → Calls Tryz.prog 116 #[.string an, .string bd] W (StE r1 c1 W))
    (H2 : ∀ W, VarT W → Calls Tryz.prog 116 #[.string bn, .string ad] W (StE r2 c2 W)) :
    Calls Tryz.prog 39 #[.string s, .string t] w (CmE 0 c w) := by
  have J := Lib.hid H
  have J1 := Lib.hid H1
  have J2 := Lib.hid H2
  have HC := Lib.hid hc
  have hz : (c == 0) = false := by rw [beq_eq_false_iff_ne]; exact h0
  clear hc h0
  have HV0 := Lib.hid hv
  clear H H1 H2 hv
  go_enter Tryz.func39, Tryz.ntmps39
  go_wp2_with (first
    | (go_at_call 77; refine J.out.mono ?_; rintro e w1 ⟨rfl, b⟩; have B := Lib.hid b; have hs1 := b.size; have HV := Lib.hid (HV0.out.below b); have HR := Lib.hid (fun (w5 : World) => @rows4c w1 (.string an) (.string ad) (.string bn) (.string bd) 111 29 116 HV.out w5); clear b)
    | (go_at_call 78; refine (multiplier_any _ _).mono ?_; rintro e w5 ⟨rfl, h5⟩; obtain ⟨C0, k1, k2, k3, k4⟩ := HR.out w5 h5; clear h5))
  have hC0 := C0.drew
  clear C0
  go_region_held3 (fun w' => w'.cell? ⟨w1.heap.size, 0, none⟩ = some (.string an) ∧ w'.cell? ⟨w1.heap.size, 1, none⟩ = some (.string ad) ∧ w'.cell? ⟨w1.heap.size + 1, 0, none⟩ = some (.string bn) ∧ w'.cell? ⟨w1.heap.size + 1, 1, none⟩ = some (.string bd))
    (((try go_split_ands); (and_intros) <;> first | assumption | exact tim_far (by assumption) (by omega) b2 | exact tim_far (by assumption) (by omega) b1 | (go_keep; done)))
    (first
      | (go_split_ands; go_at_call 115; (with_reducible refine (hC0.call _ _ r1 c1 c1 (if_pos rfl) J1.out).mono ?_); rintro e w6 ⟨rfl, b1⟩; have hC1 := hC0.after (by omega) (by omega) HV.out b1)
      | (go_split_ands; go_at_call 115; (with_reducible refine (hC1.call _ _ r2 c2 c HC.out J2.out).mono ?_); rintro e w7 ⟨rfl, b2⟩; have hC2 := hC1.after (by omega) (by omega) HV.out b2))
  have hq := hC2.hq
  have HC2 := Lib.hid hC2
  clear hC0 hC1 hC2 b1 b2 k1 k2 k3 k4
  go_wp2
  go_region
  go_wp2
  go_ret2
  exact ⟨rfl, Below.drew (bt B.out HC2.out.bl)⟩
set_option maxRecDepth 100000 in
set_option maxHeartbeats 3200000 in
theorem compare_ok (s t an ad bn bd r1 r2 : ByteArray) (r : Int) (w : World) (hv : VarT w)
    (H : Calls Tryz.prog 77 #[.string s, .string t] w (TwoF an ad bn bd 0 w))
    (H1 : ∀ W, VarT W → Calls Tryz.prog 116 #[.string an, .string bd] W (StE r1 0 W))
    (H2 : ∀ W, VarT W → Calls Tryz.prog 116 #[.string bn, .string ad] W (StE r2 0 W))
    (H3 : ∀ W, VarT W → Calls Tryz.prog 79 #[.string r1, .string r2] W (CmpR r W)) :
    Calls Tryz.prog 39 #[.string s, .string t] w (CmE r 0 w) := by
  have J := Lib.hid H
  have J1 := Lib.hid H1
  have J2 := Lib.hid H2
  have J3 := Lib.hid H3
  clear H3
  have HV0 := Lib.hid hv
  clear H H1 H2 hv
  go_enter Tryz.func39, Tryz.ntmps39
  go_wp2_with (first
    | (go_at_call 77; refine J.out.mono ?_; rintro e w1 ⟨rfl, b⟩; have B := Lib.hid b; have hs1 := b.size; have HV := Lib.hid (HV0.out.below b); have HR := Lib.hid (fun (w5 : World) => @rows4c w1 (.string an) (.string ad) (.string bn) (.string bd) 111 29 116 HV.out w5); clear b)
    | (go_at_call 78; refine (multiplier_any _ _).mono ?_; rintro e w5 ⟨rfl, h5⟩; obtain ⟨C0, k1, k2, k3, k4⟩ := HR.out w5 h5; clear h5))
  have hC0 := C0.drew
  clear C0
  go_region_held3 (fun w' => w'.cell? ⟨w1.heap.size, 0, none⟩ = some (.string an) ∧ w'.cell? ⟨w1.heap.size, 1, none⟩ = some (.string ad) ∧ w'.cell? ⟨w1.heap.size + 1, 0, none⟩ = some (.string bn) ∧ w'.cell? ⟨w1.heap.size + 1, 1, none⟩ = some (.string bd))
    (((try go_split_ands); (and_intros) <;> first | assumption | exact tim_far (by assumption) (by omega) b2 | exact tim_far (by assumption) (by omega) b1 | (go_keep; done)))
    (first
      | (go_split_ands; go_at_call 115; (with_reducible refine (hC0.call _ _ r1 0 0 rfl J1.out).mono ?_); rintro e w6 ⟨rfl, b1⟩; have hC1 := hC0.after (by omega) (by omega) HV.out b1)
      | (go_split_ands; go_at_call 115; (with_reducible refine (hC1.call _ _ r2 0 0 rfl J2.out).mono ?_); rintro e w7 ⟨rfl, b2⟩; have hC2 := hC1.after (by omega) (by omega) HV.out b2))
  have hq := hC2.hq
  have HC2 := Lib.hid hC2
  clear hC0 hC1 hC2 b1 b2 k1 k2 k3 k4
  go_wp2_with (go_at_call 79; refine (J3.out _ HC2.out.v).mono ?_; rintro e w8 ⟨rfl, b⟩; have B8 := Lib.hid (bt (bt B.out HC2.out.bl) b); clear b)
  go_ret2
  exact ⟨rfl, B8.out⟩
def twK (l m : List UInt8) : Int := if twC comC l m = 0 then cmpQ (qv l) (qv m) else 0
theorem rcompare_any (s t : ByteArray) (hs : s.size ≤ 1048576) (ht : t.size ≤ 1048576) (w : World) (hv : VarR w) :
    Calls Tryz.prog 39 #[.string s, .string t] w (CmE (twK s.data.toList t.data.toList) (twC comC s.data.toList t.data.toList) w) := by
  unfold twK
  rcases text_cases s with h1 | ⟨a, rfl, ha⟩
  · rw [twC_l h1, if_neg h1]
    exact compare_parse _ _ _ _ _ _ _ h1 w (parseTwo_one s t w hv _ _ _ h1 (fun W hW => parse_e s hs h1 W hW))
  rcases text_cases t with h2 | ⟨b, rfl, hb⟩
  · rw [twC_r (rq_chk ha) h2, if_neg h2]
    exact compare_parse _ _ _ _ _ _ _ h2 w (parseTwo_two _ t w hv _ _ _ _ _ h2 (fun W hW => parse_q a ha W hW) (fun W hW => parse_e t ht h2 W hW))
  rw [twC_rq ha hb, qv_rq, qv_rq]
  have HT := parseTwo_ok (rq a) (rq b) w hv _ _ _ _ (fun W hW => parse_q a ha W hW) (fun W hW => parse_q b hb W hW)
  have H1 := fun W hW => mul_lims ha.1 hb.2 _ _ rfl rfl _ _ rfl rfl W hW
  have H2 := fun W hW => mul_lims hb.1 ha.2 _ _ rfl rfl _ _ rfl rfl W hW
  cases h1 : LB (a.num * (b.den : Int)) <;> cases h2 : LB (b.num * (a.den : Int))
  all_goals
    rw [h1] at H1
    rw [h2] at H2
    simp only [if_true, Bool.false_eq_true, if_false] at H1 H2
  case true.true =>
    have e : comC a b = 0 := by unfold comC; rw [h1, h2]; rfl
    rw [e, if_pos rfl]
    exact compare_ok _ _ _ _ _ _ _ _ _ w hv.t HT H1 H2 (fun W hW => compare_rep (LB_true.1 h1) (LB_true.1 h2) (cmpZ_rat a b) _ _ rfl rfl W hW)
  all_goals
    have e : comC a b = 14 := by unfold comC; rw [h1, h2]; rfl
    rw [e, if_neg (by decide)]
    exact compare_err _ _ _ _ _ _ _ _ _ _ 14 rfl (by decide) w hv.t HT H1 H2
end Go.Proofs.YtnomccgdajcfiaaGreatDoor

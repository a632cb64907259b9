/- The walks of layer 2: parse. -/
import Derived.Test.YtgjhgkglfflmjaaGreatDoorRatD
import Derived.Test.YtgjhgkglfflmjaaGreatDoorRatV
namespace Go.Proofs.YtgjhgkglfflmjaaGreatDoor
open Go Go.RowKit

/-- What parse and Parts answer. -/
def parS (l : List UInt8) : List UInt8 × List UInt8 := if chkR l = 0 then (nB l, dB l) else ([], [])
def PrsR (n d : ByteArray) (c : Int) (w : World) (e : Ending) (w' : World) : Prop := e = .returned (.tuple #[.agg #[.string n, .string d], .int .i64 c]) ∧ Below w.heap.size w w'
theorem cut_parts (l : List UInt8) : (Lib.cut l [47]).1 = nB l ∧ (Lib.cut l [47]).2.2 = hB l ∧ (hB l = true → (Lib.cut l [47]).2.1 = dB l) ∧ (hB l = false → (Lib.cut l [47]).2.1 = []) := by
  rw [spl_cut]
  unfold nB hB dB
  cases h : spl l with
  | none => exact ⟨rfl, rfl, (by intro e; cases e), fun _ => rfl⟩
  | some p => exact ⟨rfl, rfl, fun _ => rfl, (by intro e; cases e)⟩
theorem row_drewN {w : World} {r : Nat} {cs : Array Value} {t : TypeId} (h : w.heap[r]? = some (.cells cs t (0, 0))) (k : Nat) : (w.drewN k).heap[r]? = some (.cells cs t (0, 0)) := h
/-- Two results, the first one a struct in memory. -/
theorem results_cell_tmp {P : Program} {fn : Func} {p q : Tmp} {ty : TypeId} (h : fn.results = #[.cell p ty, .tmp q]) (tmps : Array Value) (w : World) (g : Nat) (t : TypeId) (cs : Array Value) (fr : Nat × Nat) (d : TypeDesc) (u : Value) (hq : tmps.getD q undef = u)
    (hp : tmps.getD p undef = .pointer (some ⟨g, 0, none⟩)) (hg : w.heap[g]? = some (.cells cs t fr))
    (hu : P.underlying ty = some d) (hd : (match d with | .struct _ | .array _ _ => true | _ => false) = true) (hi : (P.info? ty).map (·.size) = some cs.size) :
    (results fn tmps).run P w = .ok (.tuple #[.agg cs, u]) w := by
  subst hq
  have hp' : tmps[p]?.getD undef = .pointer (some ⟨g, 0, none⟩) := by simpa using hp
  simp [results, h, hp', asAddr, run_loadVar_row w g t ty cs fr d hg hu hd hi]
def CutR (n b : ByteArray) (h : Bool) (w : World) (e : Ending) (w' : World) : Prop := e = .returned (.tuple #[.string n, .string b, .bool h]) ∧ ∃ k, w' = w.drewN k
def IntR (c : Int) (w : World) (e : Ending) (w' : World) : Prop := e = .returned (.int .i64 c) ∧ w = w'
def BooR (c : Bool) (w : World) (e : Ending) (w' : World) : Prop := e = .returned (.bool c) ∧ w = w'
set_option maxRecDepth 100000 in
set_option maxHeartbeats 1600000 in
theorem pF12 (s N E : ByteArray) (w : World) (hv : VarR w)
    (HC : ∀ W, VarR W → Calls Tryz.prog 73 #[.string s, .string ⟨#[47]⟩] W (CutR N E false W))
    (HX : ∀ W, Calls Tryz.prog 36 #[.string N] W (IntR 12 W)) (HY : ∀ W, Calls Tryz.prog 36 #[.string ⟨#[49]⟩] W (IntR 0 W)) : Calls Tryz.prog 38 #[.string s] w (PrsR ⟨#[]⟩ ⟨#[]⟩ 12 w) := by
  have HB := Lib.hid ((Below.refl _ w).alloc (Nat.le_refl _) (.cells #[.string ⟨#[]⟩, .string ⟨#[]⟩] 60))
  have HR := heap_alloc_new w (.cells #[.string ⟨#[]⟩, .string ⟨#[]⟩] 60)
  have HV := Lib.hid hv
  have JC := Lib.hid HC
  have JX := Lib.hid HX
  have JY := Lib.hid HY
  clear hv HC HX HY
  go_enter Tryz.func38, Tryz.ntmps38
  go_wp2_with (first
    | (go_at_call 73; refine (JC.out _ (HV.out.below HB.out)).mono ?_; rintro e w1 ⟨rfl, k, rfl⟩; have b1 := below_drewN HB.out k; have R1 := row_drewN HR k; obtain ⟨k1, k2, k3, k4⟩ := row2 R1)
    | (go_at_call 36; (with_reducible refine (JX.out _).mono ?_); rintro e w2 ⟨rfl, rfl⟩)
    | (go_at_call 36; (with_reducible refine (JY.out _).mono ?_); rintro e w3 ⟨rfl, rfl⟩))
  refine bodyPost_ret (v := .tuple #[.agg #[.string ⟨#[]⟩, .string ⟨#[]⟩], .int .i64 12]) (results_cell_tmp rfl _ _ w.heap.size 60 #[.string ⟨#[]⟩, .string ⟨#[]⟩] (0, 0) _ (.int .i64 12) rfl rfl (sc_row _ _ R1) Tryz.underlying60 (by kernel_rfl) (by kernel_rfl)) rfl ⟨rfl, ?_⟩
  exact (b1.setCell (p := ⟨w.heap.size, 0, none⟩) (Nat.le_refl _) _).setCell (p := ⟨w.heap.size, 1, none⟩) (Nat.le_refl _) _
set_option maxRecDepth 100000 in
set_option maxHeartbeats 1600000 in
theorem pF14 (s N E : ByteArray) (w : World) (hv : VarR w)
    (HC : ∀ W, VarR W → Calls Tryz.prog 73 #[.string s, .string ⟨#[47]⟩] W (CutR N E false W))
    (HX : ∀ W, Calls Tryz.prog 36 #[.string N] W (IntR 14 W)) (HY : ∀ W, Calls Tryz.prog 36 #[.string ⟨#[49]⟩] W (IntR 0 W)) : Calls Tryz.prog 38 #[.string s] w (PrsR ⟨#[]⟩ ⟨#[]⟩ 14 w) := by
  have HB := Lib.hid ((Below.refl _ w).alloc (Nat.le_refl _) (.cells #[.string ⟨#[]⟩, .string ⟨#[]⟩] 60))
  have HR := heap_alloc_new w (.cells #[.string ⟨#[]⟩, .string ⟨#[]⟩] 60)
  have HV := Lib.hid hv
  have JC := Lib.hid HC
  have JX := Lib.hid HX
  have JY := Lib.hid HY
  clear hv HC HX HY
  go_enter Tryz.func38, Tryz.ntmps38
  go_wp2_with (first
    | (go_at_call 73; refine (JC.out _ (HV.out.below HB.out)).mono ?_; rintro e w1 ⟨rfl, k, rfl⟩; have b1 := below_drewN HB.out k; have R1 := row_drewN HR k; obtain ⟨k1, k2, k3, k4⟩ := row2 R1)
    | (go_at_call 36; (with_reducible refine (JX.out _).mono ?_); rintro e w2 ⟨rfl, rfl⟩)
    | (go_at_call 36; (with_reducible refine (JY.out _).mono ?_); rintro e w3 ⟨rfl, rfl⟩))
  refine bodyPost_ret (v := .tuple #[.agg #[.string ⟨#[]⟩, .string ⟨#[]⟩], .int .i64 14]) (results_cell_tmp rfl _ _ w.heap.size 60 #[.string ⟨#[]⟩, .string ⟨#[]⟩] (0, 0) _ (.int .i64 14) rfl rfl (sc_row _ _ R1) Tryz.underlying60 (by kernel_rfl) (by kernel_rfl)) rfl ⟨rfl, ?_⟩
  exact (b1.setCell (p := ⟨w.heap.size, 0, none⟩) (Nat.le_refl _) _).setCell (p := ⟨w.heap.size, 1, none⟩) (Nat.le_refl _) _
set_option maxRecDepth 100000 in
set_option maxHeartbeats 1600000 in
theorem pF0 (s N E : ByteArray) (w : World) (hv : VarR w)
    (HC : ∀ W, VarR W → Calls Tryz.prog 73 #[.string s, .string ⟨#[47]⟩] W (CutR N E false W))
    (HX : ∀ W, Calls Tryz.prog 36 #[.string N] W (IntR 0 W)) (HY : ∀ W, Calls Tryz.prog 36 #[.string ⟨#[49]⟩] W (IntR 0 W)) : Calls Tryz.prog 38 #[.string s] w (PrsR N ⟨#[49]⟩ 0 w) := by
  have HB := Lib.hid ((Below.refl _ w).alloc (Nat.le_refl _) (.cells #[.string ⟨#[]⟩, .string ⟨#[]⟩] 60))
  have HR := heap_alloc_new w (.cells #[.string ⟨#[]⟩, .string ⟨#[]⟩] 60)
  have HV := Lib.hid hv
  have JC := Lib.hid HC
  have JX := Lib.hid HX
  have JY := Lib.hid HY
  clear hv HC HX HY
  go_enter Tryz.func38, Tryz.ntmps38
  go_wp2_with (first
    | (go_at_call 73; refine (JC.out _ (HV.out.below HB.out)).mono ?_; rintro e w1 ⟨rfl, k, rfl⟩; have b1 := below_drewN HB.out k; have R1 := row_drewN HR k; obtain ⟨k1, k2, k3, k4⟩ := row2 R1)
    | (go_at_call 36; (with_reducible refine (JX.out _).mono ?_); rintro e w2 ⟨rfl, rfl⟩)
    | (go_at_call 36; (with_reducible refine (JY.out _).mono ?_); rintro e w3 ⟨rfl, rfl⟩))
  refine bodyPost_ret (v := .tuple #[.agg #[.string N, .string ⟨#[49]⟩], .int .i64 0]) (results_cell_tmp rfl _ _ w.heap.size 60 #[.string N, .string ⟨#[49]⟩] (0, 0) _ (.int .i64 0) rfl rfl (sc_row _ _ R1) Tryz.underlying60 (by kernel_rfl) (by kernel_rfl)) rfl ⟨rfl, ?_⟩
  exact (b1.setCell (p := ⟨w.heap.size, 0, none⟩) (Nat.le_refl _) _).setCell (p := ⟨w.heap.size, 1, none⟩) (Nat.le_refl _) _
set_option maxRecDepth 100000 in
set_option maxHeartbeats 1600000 in
theorem pT0_0_n (s N D : ByteArray) (w : World) (hv : VarR w)
    (HC : ∀ W, VarR W → Calls Tryz.prog 73 #[.string s, .string ⟨#[47]⟩] W (CutR N D true W))
    (HX : ∀ W, Calls Tryz.prog 36 #[.string N] W (IntR 0 W)) (HY : ∀ W, Calls Tryz.prog 36 #[.string D] W (IntR 0 W))
    (HO : ∀ W, Calls Tryz.prog 74 #[.string D] W (BooR false W)) : Calls Tryz.prog 38 #[.string s] w (PrsR ⟨#[]⟩ ⟨#[]⟩ 12 w) := by
  have HB := Lib.hid ((Below.refl _ w).alloc (Nat.le_refl _) (.cells #[.string ⟨#[]⟩, .string ⟨#[]⟩] 60))
  have HR := heap_alloc_new w (.cells #[.string ⟨#[]⟩, .string ⟨#[]⟩] 60)
  have HV := Lib.hid hv
  have JC := Lib.hid HC
  have JX := Lib.hid HX
  have JY := Lib.hid HY
  have JO := Lib.hid HO
  clear hv HC HX HY HO
  go_enter Tryz.func38, Tryz.ntmps38
  go_wp2_with (first
    | (go_at_call 73; refine (JC.out _ (HV.out.below HB.out)).mono ?_; rintro e w1 ⟨rfl, k, rfl⟩; have b1 := below_drewN HB.out k; have R1 := row_drewN HR k; obtain ⟨k1, k2, k3, k4⟩ := row2 R1)
    | (go_at_call 36; (with_reducible refine (JX.out _).mono ?_); rintro e w2 ⟨rfl, rfl⟩)
    | (go_at_call 36; (with_reducible refine (JY.out _).mono ?_); rintro e w3 ⟨rfl, rfl⟩)
    | (go_at_call 74; (with_reducible refine (JO.out _).mono ?_); rintro e w4 ⟨rfl, rfl⟩))
  refine bodyPost_ret (v := .tuple #[.agg #[.string ⟨#[]⟩, .string ⟨#[]⟩], .int .i64 12]) (results_cell_tmp rfl _ _ w.heap.size 60 #[.string ⟨#[]⟩, .string ⟨#[]⟩] (0, 0) _ (.int .i64 12) rfl rfl (sc_row _ _ R1) Tryz.underlying60 (by kernel_rfl) (by kernel_rfl)) rfl ⟨rfl, ?_⟩
  exact (b1.setCell (p := ⟨w.heap.size, 0, none⟩) (Nat.le_refl _) _).setCell (p := ⟨w.heap.size, 1, none⟩) (Nat.le_refl _) _
set_option maxRecDepth 100000 in
set_option maxHeartbeats 1600000 in
theorem pT0_0_g (s N D G : ByteArray) (w : World) (hv : VarR w)
    (HC : ∀ W, VarR W → Calls Tryz.prog 73 #[.string s, .string ⟨#[47]⟩] W (CutR N D true W))
    (HX : ∀ W, Calls Tryz.prog 36 #[.string N] W (IntR 0 W)) (HY : ∀ W, Calls Tryz.prog 36 #[.string D] W (IntR 0 W))
    (HO : ∀ W, Calls Tryz.prog 74 #[.string D] W (BooR true W))
    (HG : ∀ W, VarT W → Calls Tryz.prog 75 #[.string N, .string D] W (StrR G W)) (hG : (G.toList == [49]) = true) : Calls Tryz.prog 38 #[.string s] w (PrsR N D 0 w) := by
  have HB := Lib.hid ((Below.refl _ w).alloc (Nat.le_refl _) (.cells #[.string ⟨#[]⟩, .string ⟨#[]⟩] 60))
  have HR := heap_alloc_new w (.cells #[.string ⟨#[]⟩, .string ⟨#[]⟩] 60)
  have HV := Lib.hid hv
  have JC := Lib.hid HC
  have JX := Lib.hid HX
  have JY := Lib.hid HY
  have JO := Lib.hid HO
  have JG := Lib.hid HG
  clear hv HC HX HY HO HG
  go_enter Tryz.func38, Tryz.ntmps38
  go_wp2_with (first
    | (go_at_call 73; refine (JC.out _ (HV.out.below HB.out)).mono ?_; rintro e w1 ⟨rfl, k, rfl⟩; have b1 := below_drewN HB.out k; have R1 := row_drewN HR k; obtain ⟨k1, k2, k3, k4⟩ := row2 R1)
    | (go_at_call 36; (with_reducible refine (JX.out _).mono ?_); rintro e w2 ⟨rfl, rfl⟩)
    | (go_at_call 36; (with_reducible refine (JY.out _).mono ?_); rintro e w3 ⟨rfl, rfl⟩)
    | (go_at_call 74; (with_reducible refine (JO.out _).mono ?_); rintro e w4 ⟨rfl, rfl⟩)
    | (go_at_call 75; refine (JG.out _ (HV.out.below b1).t).mono ?_; rintro e w5 ⟨rfl, b⟩; have b2 := bt b1 b; have R2 := row_far R1 b; obtain ⟨j1, j2, j3, j4⟩ := row2 R2; clear b))
  refine bodyPost_ret (v := .tuple #[.agg #[.string N, .string D], .int .i64 0]) (results_cell_tmp rfl _ _ w.heap.size 60 #[.string N, .string D] (0, 0) _ (.int .i64 0) rfl rfl (sc_row _ _ R2) Tryz.underlying60 (by kernel_rfl) (by kernel_rfl)) rfl ⟨rfl, ?_⟩
  exact (b2.setCell (p := ⟨w.heap.size, 0, none⟩) (Nat.le_refl _) _).setCell (p := ⟨w.heap.size, 1, none⟩) (Nat.le_refl _) _
set_option maxRecDepth 100000 in
set_option maxHeartbeats 1600000 in
theorem pT0_0_h (s N D G : ByteArray) (w : World) (hv : VarR w)
    (HC : ∀ W, VarR W → Calls Tryz.prog 73 #[.string s, .string ⟨#[47]⟩] W (CutR N D true W))
    (HX : ∀ W, Calls Tryz.prog 36 #[.string N] W (IntR 0 W)) (HY : ∀ W, Calls Tryz.prog 36 #[.string D] W (IntR 0 W))
    (HO : ∀ W, Calls Tryz.prog 74 #[.string D] W (BooR true W))
    (HG : ∀ W, VarT W → Calls Tryz.prog 75 #[.string N, .string D] W (StrR G W)) (hG : (G.toList == [49]) = false) : Calls Tryz.prog 38 #[.string s] w (PrsR ⟨#[]⟩ ⟨#[]⟩ 12 w) := by
  have HB := Lib.hid ((Below.refl _ w).alloc (Nat.le_refl _) (.cells #[.string ⟨#[]⟩, .string ⟨#[]⟩] 60))
  have HR := heap_alloc_new w (.cells #[.string ⟨#[]⟩, .string ⟨#[]⟩] 60)
  have HV := Lib.hid hv
  have JC := Lib.hid HC
  have JX := Lib.hid HX
  have JY := Lib.hid HY
  have JO := Lib.hid HO
  have JG := Lib.hid HG
  clear hv HC HX HY HO HG
  go_enter Tryz.func38, Tryz.ntmps38
  go_wp2_with (first
    | (go_at_call 73; refine (JC.out _ (HV.out.below HB.out)).mono ?_; rintro e w1 ⟨rfl, k, rfl⟩; have b1 := below_drewN HB.out k; have R1 := row_drewN HR k; obtain ⟨k1, k2, k3, k4⟩ := row2 R1)
    | (go_at_call 36; (with_reducible refine (JX.out _).mono ?_); rintro e w2 ⟨rfl, rfl⟩)
    | (go_at_call 36; (with_reducible refine (JY.out _).mono ?_); rintro e w3 ⟨rfl, rfl⟩)
    | (go_at_call 74; (with_reducible refine (JO.out _).mono ?_); rintro e w4 ⟨rfl, rfl⟩)
    | (go_at_call 75; refine (JG.out _ (HV.out.below b1).t).mono ?_; rintro e w5 ⟨rfl, b⟩; have b2 := bt b1 b; have R2 := row_far R1 b; obtain ⟨j1, j2, j3, j4⟩ := row2 R2; clear b))
  refine bodyPost_ret (v := .tuple #[.agg #[.string ⟨#[]⟩, .string ⟨#[]⟩], .int .i64 12]) (results_cell_tmp rfl _ _ w.heap.size 60 #[.string ⟨#[]⟩, .string ⟨#[]⟩] (0, 0) _ (.int .i64 12) rfl rfl (sc_row _ _ R2) Tryz.underlying60 (by kernel_rfl) (by kernel_rfl)) rfl ⟨rfl, ?_⟩
  exact (b2.setCell (p := ⟨w.heap.size, 0, none⟩) (Nat.le_refl _) _).setCell (p := ⟨w.heap.size, 1, none⟩) (Nat.le_refl _) _
set_option maxRecDepth 100000 in
set_option maxHeartbeats 1600000 in
theorem pT0_12 (s N D : ByteArray) (w : World) (hv : VarR w)
    (HC : ∀ W, VarR W → Calls Tryz.prog 73 #[.string s, .string ⟨#[47]⟩] W (CutR N D true W))
    (HX : ∀ W, Calls Tryz.prog 36 #[.string N] W (IntR 0 W)) (HY : ∀ W, Calls Tryz.prog 36 #[.string D] W (IntR 12 W)) : Calls Tryz.prog 38 #[.string s] w (PrsR ⟨#[]⟩ ⟨#[]⟩ 12 w) := by
  have HB := Lib.hid ((Below.refl _ w).alloc (Nat.le_refl _) (.cells #[.string ⟨#[]⟩, .string ⟨#[]⟩] 60))
  have HR := heap_alloc_new w (.cells #[.string ⟨#[]⟩, .string ⟨#[]⟩] 60)
  have HV := Lib.hid hv
  have JC := Lib.hid HC
  have JX := Lib.hid HX
  have JY := Lib.hid HY
  clear hv HC HX HY
  go_enter Tryz.func38, Tryz.ntmps38
  go_wp2_with (first
    | (go_at_call 73; refine (JC.out _ (HV.out.below HB.out)).mono ?_; rintro e w1 ⟨rfl, k, rfl⟩; have b1 := below_drewN HB.out k; have R1 := row_drewN HR k; obtain ⟨k1, k2, k3, k4⟩ := row2 R1)
    | (go_at_call 36; (with_reducible refine (JX.out _).mono ?_); rintro e w2 ⟨rfl, rfl⟩)
    | (go_at_call 36; (with_reducible refine (JY.out _).mono ?_); rintro e w3 ⟨rfl, rfl⟩))
  refine bodyPost_ret (v := .tuple #[.agg #[.string ⟨#[]⟩, .string ⟨#[]⟩], .int .i64 12]) (results_cell_tmp rfl _ _ w.heap.size 60 #[.string ⟨#[]⟩, .string ⟨#[]⟩] (0, 0) _ (.int .i64 12) rfl rfl (sc_row _ _ R1) Tryz.underlying60 (by kernel_rfl) (by kernel_rfl)) rfl ⟨rfl, ?_⟩
  exact (b1.setCell (p := ⟨w.heap.size, 0, none⟩) (Nat.le_refl _) _).setCell (p := ⟨w.heap.size, 1, none⟩) (Nat.le_refl _) _
set_option maxRecDepth 100000 in
set_option maxHeartbeats 1600000 in
theorem pT0_14_n (s N D : ByteArray) (w : World) (hv : VarR w)
    (HC : ∀ W, VarR W → Calls Tryz.prog 73 #[.string s, .string ⟨#[47]⟩] W (CutR N D true W))
    (HX : ∀ W, Calls Tryz.prog 36 #[.string N] W (IntR 0 W)) (HY : ∀ W, Calls Tryz.prog 36 #[.string D] W (IntR 14 W))
    (HO : ∀ W, Calls Tryz.prog 74 #[.string D] W (BooR false W)) : Calls Tryz.prog 38 #[.string s] w (PrsR ⟨#[]⟩ ⟨#[]⟩ 12 w) := by
  have HB := Lib.hid ((Below.refl _ w).alloc (Nat.le_refl _) (.cells #[.string ⟨#[]⟩, .string ⟨#[]⟩] 60))
  have HR := heap_alloc_new w (.cells #[.string ⟨#[]⟩, .string ⟨#[]⟩] 60)
  have HV := Lib.hid hv
  have JC := Lib.hid HC
  have JX := Lib.hid HX
  have JY := Lib.hid HY
  have JO := Lib.hid HO
  clear hv HC HX HY HO
  go_enter Tryz.func38, Tryz.ntmps38
  go_wp2_with (first
    | (go_at_call 73; refine (JC.out _ (HV.out.below HB.out)).mono ?_; rintro e w1 ⟨rfl, k, rfl⟩; have b1 := below_drewN HB.out k; have R1 := row_drewN HR k; obtain ⟨k1, k2, k3, k4⟩ := row2 R1)
    | (go_at_call 36; (with_reducible refine (JX.out _).mono ?_); rintro e w2 ⟨rfl, rfl⟩)
    | (go_at_call 36; (with_reducible refine (JY.out _).mono ?_); rintro e w3 ⟨rfl, rfl⟩)
    | (go_at_call 74; (with_reducible refine (JO.out _).mono ?_); rintro e w4 ⟨rfl, rfl⟩))
  refine bodyPost_ret (v := .tuple #[.agg #[.string ⟨#[]⟩, .string ⟨#[]⟩], .int .i64 12]) (results_cell_tmp rfl _ _ w.heap.size 60 #[.string ⟨#[]⟩, .string ⟨#[]⟩] (0, 0) _ (.int .i64 12) rfl rfl (sc_row _ _ R1) Tryz.underlying60 (by kernel_rfl) (by kernel_rfl)) rfl ⟨rfl, ?_⟩
  exact (b1.setCell (p := ⟨w.heap.size, 0, none⟩) (Nat.le_refl _) _).setCell (p := ⟨w.heap.size, 1, none⟩) (Nat.le_refl _) _
set_option maxRecDepth 100000 in
set_option maxHeartbeats 1600000 in
theorem pT0_14_o (s N D : ByteArray) (w : World) (hv : VarR w)
    (HC : ∀ W, VarR W → Calls Tryz.prog 73 #[.string s, .string ⟨#[47]⟩] W (CutR N D true W))
    (HX : ∀ W, Calls Tryz.prog 36 #[.string N] W (IntR 0 W)) (HY : ∀ W, Calls Tryz.prog 36 #[.string D] W (IntR 14 W))
    (HO : ∀ W, Calls Tryz.prog 74 #[.string D] W (BooR true W)) : Calls Tryz.prog 38 #[.string s] w (PrsR ⟨#[]⟩ ⟨#[]⟩ 14 w) := by
  have HB := Lib.hid ((Below.refl _ w).alloc (Nat.le_refl _) (.cells #[.string ⟨#[]⟩, .string ⟨#[]⟩] 60))
  have HR := heap_alloc_new w (.cells #[.string ⟨#[]⟩, .string ⟨#[]⟩] 60)
  have HV := Lib.hid hv
  have JC := Lib.hid HC
  have JX := Lib.hid HX
  have JY := Lib.hid HY
  have JO := Lib.hid HO
  clear hv HC HX HY HO
  go_enter Tryz.func38, Tryz.ntmps38
  go_wp2_with (first
    | (go_at_call 73; refine (JC.out _ (HV.out.below HB.out)).mono ?_; rintro e w1 ⟨rfl, k, rfl⟩; have b1 := below_drewN HB.out k; have R1 := row_drewN HR k; obtain ⟨k1, k2, k3, k4⟩ := row2 R1)
    | (go_at_call 36; (with_reducible refine (JX.out _).mono ?_); rintro e w2 ⟨rfl, rfl⟩)
    | (go_at_call 36; (with_reducible refine (JY.out _).mono ?_); rintro e w3 ⟨rfl, rfl⟩)
    | (go_at_call 74; (with_reducible refine (JO.out _).mono ?_); rintro e w4 ⟨rfl, rfl⟩))
  refine bodyPost_ret (v := .tuple #[.agg #[.string ⟨#[]⟩, .string ⟨#[]⟩], .int .i64 14]) (results_cell_tmp rfl _ _ w.heap.size 60 #[.string ⟨#[]⟩, .string ⟨#[]⟩] (0, 0) _ (.int .i64 14) rfl rfl (sc_row _ _ R1) Tryz.underlying60 (by kernel_rfl) (by kernel_rfl)) rfl ⟨rfl, ?_⟩
  exact (b1.setCell (p := ⟨w.heap.size, 0, none⟩) (Nat.le_refl _) _).setCell (p := ⟨w.heap.size, 1, none⟩) (Nat.le_refl _) _
set_option maxRecDepth 100000 in
set_option maxHeartbeats 1600000 in
theorem pT12_0 (s N D : ByteArray) (w : World) (hv : VarR w)
    (HC : ∀ W, VarR W → Calls Tryz.prog 73 #[.string s, .string ⟨#[47]⟩] W (CutR N D true W))
    (HX : ∀ W, Calls Tryz.prog 36 #[.string N] W (IntR 12 W)) (HY : ∀ W, Calls Tryz.prog 36 #[.string D] W (IntR 0 W)) : Calls Tryz.prog 38 #[.string s] w (PrsR ⟨#[]⟩ ⟨#[]⟩ 12 w) := by
  have HB := Lib.hid ((Below.refl _ w).alloc (Nat.le_refl _) (.cells #[.string ⟨#[]⟩, .string ⟨#[]⟩] 60))
  have HR := heap_alloc_new w (.cells #[.string ⟨#[]⟩, .string ⟨#[]⟩] 60)
  have HV := Lib.hid hv
  have JC := Lib.hid HC
  have JX := Lib.hid HX
  have JY := Lib.hid HY
  clear hv HC HX HY
  go_enter Tryz.func38, Tryz.ntmps38
  go_wp2_with (first
    | (go_at_call 73; refine (JC.out _ (HV.out.below HB.out)).mono ?_; rintro e w1 ⟨rfl, k, rfl⟩; have b1 := below_drewN HB.out k; have R1 := row_drewN HR k; obtain ⟨k1, k2, k3, k4⟩ := row2 R1)
    | (go_at_call 36; (with_reducible refine (JX.out _).mono ?_); rintro e w2 ⟨rfl, rfl⟩)
    | (go_at_call 36; (with_reducible refine (JY.out _).mono ?_); rintro e w3 ⟨rfl, rfl⟩))
  refine bodyPost_ret (v := .tuple #[.agg #[.string ⟨#[]⟩, .string ⟨#[]⟩], .int .i64 12]) (results_cell_tmp rfl _ _ w.heap.size 60 #[.string ⟨#[]⟩, .string ⟨#[]⟩] (0, 0) _ (.int .i64 12) rfl rfl (sc_row _ _ R1) Tryz.underlying60 (by kernel_rfl) (by kernel_rfl)) rfl ⟨rfl, ?_⟩
  exact (b1.setCell (p := ⟨w.heap.size, 0, none⟩) (Nat.le_refl _) _).setCell (p := ⟨w.heap.size, 1, none⟩) (Nat.le_refl _) _
set_option maxRecDepth 100000 in
set_option maxHeartbeats 1600000 in
theorem pT12_12 (s N D : ByteArray) (w : World) (hv : VarR w)
    (HC : ∀ W, VarR W → Calls Tryz.prog 73 #[.string s, .string ⟨#[47]⟩] W (CutR N D true W))
    (HX : ∀ W, Calls Tryz.prog 36 #[.string N] W (IntR 12 W)) (HY : ∀ W, Calls Tryz.prog 36 #[.string D] W (IntR 12 W)) : Calls Tryz.prog 38 #[.string s] w (PrsR ⟨#[]⟩ ⟨#[]⟩ 12 w) := by
  have HB := Lib.hid ((Below.refl _ w).alloc (Nat.le_refl _) (.cells #[.string ⟨#[]⟩, .string ⟨#[]⟩] 60))
  have HR := heap_alloc_new w (.cells #[.string ⟨#[]⟩, .string ⟨#[]⟩] 60)
  have HV := Lib.hid hv
  have JC := Lib.hid HC
  have JX := Lib.hid HX
  have JY := Lib.hid HY
  clear hv HC HX HY
  go_enter Tryz.func38, Tryz.ntmps38
  go_wp2_with (first
    | (go_at_call 73; refine (JC.out _ (HV.out.below HB.out)).mono ?_; rintro e w1 ⟨rfl, k, rfl⟩; have b1 := below_drewN HB.out k; have R1 := row_drewN HR k; obtain ⟨k1, k2, k3, k4⟩ := row2 R1)
    | (go_at_call 36; (with_reducible refine (JX.out _).mono ?_); rintro e w2 ⟨rfl, rfl⟩)
    | (go_at_call 36; (with_reducible refine (JY.out _).mono ?_); rintro e w3 ⟨rfl, rfl⟩))
  refine bodyPost_ret (v := .tuple #[.agg #[.string ⟨#[]⟩, .string ⟨#[]⟩], .int .i64 12]) (results_cell_tmp rfl _ _ w.heap.size 60 #[.string ⟨#[]⟩, .string ⟨#[]⟩] (0, 0) _ (.int .i64 12) rfl rfl (sc_row _ _ R1) Tryz.underlying60 (by kernel_rfl) (by kernel_rfl)) rfl ⟨rfl, ?_⟩
  exact (b1.setCell (p := ⟨w.heap.size, 0, none⟩) (Nat.le_refl _) _).setCell (p := ⟨w.heap.size, 1, none⟩) (Nat.le_refl _) _
set_option maxRecDepth 100000 in
set_option maxHeartbeats 1600000 in
theorem pT12_14 (s N D : ByteArray) (w : World) (hv : VarR w)
    (HC : ∀ W, VarR W → Calls Tryz.prog 73 #[.string s, .string ⟨#[47]⟩] W (CutR N D true W))
    (HX : ∀ W, Calls Tryz.prog 36 #[.string N] W (IntR 12 W)) (HY : ∀ W, Calls Tryz.prog 36 #[.string D] W (IntR 14 W)) : Calls Tryz.prog 38 #[.string s] w (PrsR ⟨#[]⟩ ⟨#[]⟩ 12 w) := by
  have HB := Lib.hid ((Below.refl _ w).alloc (Nat.le_refl _) (.cells #[.string ⟨#[]⟩, .string ⟨#[]⟩] 60))
  have HR := heap_alloc_new w (.cells #[.string ⟨#[]⟩, .string ⟨#[]⟩] 60)
  have HV := Lib.hid hv
  have JC := Lib.hid HC
  have JX := Lib.hid HX
  have JY := Lib.hid HY
  clear hv HC HX HY
  go_enter Tryz.func38, Tryz.ntmps38
  go_wp2_with (first
    | (go_at_call 73; refine (JC.out _ (HV.out.below HB.out)).mono ?_; rintro e w1 ⟨rfl, k, rfl⟩; have b1 := below_drewN HB.out k; have R1 := row_drewN HR k; obtain ⟨k1, k2, k3, k4⟩ := row2 R1)
    | (go_at_call 36; (with_reducible refine (JX.out _).mono ?_); rintro e w2 ⟨rfl, rfl⟩)
    | (go_at_call 36; (with_reducible refine (JY.out _).mono ?_); rintro e w3 ⟨rfl, rfl⟩))
  refine bodyPost_ret (v := .tuple #[.agg #[.string ⟨#[]⟩, .string ⟨#[]⟩], .int .i64 12]) (results_cell_tmp rfl _ _ w.heap.size 60 #[.string ⟨#[]⟩, .string ⟨#[]⟩] (0, 0) _ (.int .i64 12) rfl rfl (sc_row _ _ R1) Tryz.underlying60 (by kernel_rfl) (by kernel_rfl)) rfl ⟨rfl, ?_⟩
  exact (b1.setCell (p := ⟨w.heap.size, 0, none⟩) (Nat.le_refl _) _).setCell (p := ⟨w.heap.size, 1, none⟩) (Nat.le_refl _) _
set_option maxRecDepth 100000 in
set_option maxHeartbeats 1600000 in
theorem pT14_0_n (s N D : ByteArray) (w : World) (hv : VarR w)
    (HC : ∀ W, VarR W → Calls Tryz.prog 73 #[.string s, .string ⟨#[47]⟩] W (CutR N D true W))
    (HX : ∀ W, Calls Tryz.prog 36 #[.string N] W (IntR 14 W)) (HY : ∀ W, Calls Tryz.prog 36 #[.string D] W (IntR 0 W))
    (HO : ∀ W, Calls Tryz.prog 74 #[.string D] W (BooR false W)) : Calls Tryz.prog 38 #[.string s] w (PrsR ⟨#[]⟩ ⟨#[]⟩ 12 w) := by
  have HB := Lib.hid ((Below.refl _ w).alloc (Nat.le_refl _) (.cells #[.string ⟨#[]⟩, .string ⟨#[]⟩] 60))
  have HR := heap_alloc_new w (.cells #[.string ⟨#[]⟩, .string ⟨#[]⟩] 60)
  have HV := Lib.hid hv
  have JC := Lib.hid HC
  have JX := Lib.hid HX
  have JY := Lib.hid HY
  have JO := Lib.hid HO
  clear hv HC HX HY HO
  go_enter Tryz.func38, Tryz.ntmps38
  go_wp2_with (first
    | (go_at_call 73; refine (JC.out _ (HV.out.below HB.out)).mono ?_; rintro e w1 ⟨rfl, k, rfl⟩; have b1 := below_drewN HB.out k; have R1 := row_drewN HR k; obtain ⟨k1, k2, k3, k4⟩ := row2 R1)
    | (go_at_call 36; (with_reducible refine (JX.out _).mono ?_); rintro e w2 ⟨rfl, rfl⟩)
    | (go_at_call 36; (with_reducible refine (JY.out _).mono ?_); rintro e w3 ⟨rfl, rfl⟩)
    | (go_at_call 74; (with_reducible refine (JO.out _).mono ?_); rintro e w4 ⟨rfl, rfl⟩))
  refine bodyPost_ret (v := .tuple #[.agg #[.string ⟨#[]⟩, .string ⟨#[]⟩], .int .i64 12]) (results_cell_tmp rfl _ _ w.heap.size 60 #[.string ⟨#[]⟩, .string ⟨#[]⟩] (0, 0) _ (.int .i64 12) rfl rfl (sc_row _ _ R1) Tryz.underlying60 (by kernel_rfl) (by kernel_rfl)) rfl ⟨rfl, ?_⟩
  exact (b1.setCell (p := ⟨w.heap.size, 0, none⟩) (Nat.le_refl _) _).setCell (p := ⟨w.heap.size, 1, none⟩) (Nat.le_refl _) _
set_option maxRecDepth 100000 in
set_option maxHeartbeats 1600000 in
theorem pT14_0_o (s N D : ByteArray) (w : World) (hv : VarR w)
    (HC : ∀ W, VarR W → Calls Tryz.prog 73 #[.string s, .string ⟨#[47]⟩] W (CutR N D true W))
    (HX : ∀ W, Calls Tryz.prog 36 #[.string N] W (IntR 14 W)) (HY : ∀ W, Calls Tryz.prog 36 #[.string D] W (IntR 0 W))
    (HO : ∀ W, Calls Tryz.prog 74 #[.string D] W (BooR true W)) : Calls Tryz.prog 38 #[.string s] w (PrsR ⟨#[]⟩ ⟨#[]⟩ 14 w) := by
  have HB := Lib.hid ((Below.refl _ w).alloc (Nat.le_refl _) (.cells #[.string ⟨#[]⟩, .string ⟨#[]⟩] 60))
  have HR := heap_alloc_new w (.cells #[.string ⟨#[]⟩, .string ⟨#[]⟩] 60)
  have HV := Lib.hid hv
  have JC := Lib.hid HC
  have JX := Lib.hid HX
  have JY := Lib.hid HY
  have JO := Lib.hid HO
  clear hv HC HX HY HO
  go_enter Tryz.func38, Tryz.ntmps38
  go_wp2_with (first
    | (go_at_call 73; refine (JC.out _ (HV.out.below HB.out)).mono ?_; rintro e w1 ⟨rfl, k, rfl⟩; have b1 := below_drewN HB.out k; have R1 := row_drewN HR k; obtain ⟨k1, k2, k3, k4⟩ := row2 R1)
    | (go_at_call 36; (with_reducible refine (JX.out _).mono ?_); rintro e w2 ⟨rfl, rfl⟩)
    | (go_at_call 36; (with_reducible refine (JY.out _).mono ?_); rintro e w3 ⟨rfl, rfl⟩)
    | (go_at_call 74; (with_reducible refine (JO.out _).mono ?_); rintro e w4 ⟨rfl, rfl⟩))
  refine bodyPost_ret (v := .tuple #[.agg #[.string ⟨#[]⟩, .string ⟨#[]⟩], .int .i64 14]) (results_cell_tmp rfl _ _ w.heap.size 60 #[.string ⟨#[]⟩, .string ⟨#[]⟩] (0, 0) _ (.int .i64 14) rfl rfl (sc_row _ _ R1) Tryz.underlying60 (by kernel_rfl) (by kernel_rfl)) rfl ⟨rfl, ?_⟩
  exact (b1.setCell (p := ⟨w.heap.size, 0, none⟩) (Nat.le_refl _) _).setCell (p := ⟨w.heap.size, 1, none⟩) (Nat.le_refl _) _
set_option maxRecDepth 100000 in
set_option maxHeartbeats 1600000 in
theorem pT14_12 (s N D : ByteArray) (w : World) (hv : VarR w)
    (HC : ∀ W, VarR W → Calls Tryz.prog 73 #[.string s, .string ⟨#[47]⟩] W (CutR N D true W))
    (HX : ∀ W, Calls Tryz.prog 36 #[.string N] W (IntR 14 W)) (HY : ∀ W, Calls Tryz.prog 36 #[.string D] W (IntR 12 W)) : Calls Tryz.prog 38 #[.string s] w (PrsR ⟨#[]⟩ ⟨#[]⟩ 12 w) := by
  have HB := Lib.hid ((Below.refl _ w).alloc (Nat.le_refl _) (.cells #[.string ⟨#[]⟩, .string ⟨#[]⟩] 60))
  have HR := heap_alloc_new w (.cells #[.string ⟨#[]⟩, .string ⟨#[]⟩] 60)
  have HV := Lib.hid hv
  have JC := Lib.hid HC
  have JX := Lib.hid HX
  have JY := Lib.hid HY
  clear hv HC HX HY
  go_enter Tryz.func38, Tryz.ntmps38
  go_wp2_with (first
    | (go_at_call 73; refine (JC.out _ (HV.out.below HB.out)).mono ?_; rintro e w1 ⟨rfl, k, rfl⟩; have b1 := below_drewN HB.out k; have R1 := row_drewN HR k; obtain ⟨k1, k2, k3, k4⟩ := row2 R1)
    | (go_at_call 36; (with_reducible refine (JX.out _).mono ?_); rintro e w2 ⟨rfl, rfl⟩)
    | (go_at_call 36; (with_reducible refine (JY.out _).mono ?_); rintro e w3 ⟨rfl, rfl⟩))
  refine bodyPost_ret (v := .tuple #[.agg #[.string ⟨#[]⟩, .string ⟨#[]⟩], .int .i64 12]) (results_cell_tmp rfl _ _ w.heap.size 60 #[.string ⟨#[]⟩, .string ⟨#[]⟩] (0, 0) _ (.int .i64 12) rfl rfl (sc_row _ _ R1) Tryz.underlying60 (by kernel_rfl) (by kernel_rfl)) rfl ⟨rfl, ?_⟩
  exact (b1.setCell (p := ⟨w.heap.size, 0, none⟩) (Nat.le_refl _) _).setCell (p := ⟨w.heap.size, 1, none⟩) (Nat.le_refl _) _
set_option maxRecDepth 100000 in
set_option maxHeartbeats 1600000 in
theorem pT14_14_n (s N D : ByteArray) (w : World) (hv : VarR w)
    (HC : ∀ W, VarR W → Calls Tryz.prog 73 #[.string s, .string ⟨#[47]⟩] W (CutR N D true W))
    (HX : ∀ W, Calls Tryz.prog 36 #[.string N] W (IntR 14 W)) (HY : ∀ W, Calls Tryz.prog 36 #[.string D] W (IntR 14 W))
    (HO : ∀ W, Calls Tryz.prog 74 #[.string D] W (BooR false W)) : Calls Tryz.prog 38 #[.string s] w (PrsR ⟨#[]⟩ ⟨#[]⟩ 12 w) := by
  have HB := Lib.hid ((Below.refl _ w).alloc (Nat.le_refl _) (.cells #[.string ⟨#[]⟩, .string ⟨#[]⟩] 60))
  have HR := heap_alloc_new w (.cells #[.string ⟨#[]⟩, .string ⟨#[]⟩] 60)
  have HV := Lib.hid hv
  have JC := Lib.hid HC
  have JX := Lib.hid HX
  have JY := Lib.hid HY
  have JO := Lib.hid HO
  clear hv HC HX HY HO
  go_enter Tryz.func38, Tryz.ntmps38
  go_wp2_with (first
    | (go_at_call 73; refine (JC.out _ (HV.out.below HB.out)).mono ?_; rintro e w1 ⟨rfl, k, rfl⟩; have b1 := below_drewN HB.out k; have R1 := row_drewN HR k; obtain ⟨k1, k2, k3, k4⟩ := row2 R1)
    | (go_at_call 36; (with_reducible refine (JX.out _).mono ?_); rintro e w2 ⟨rfl, rfl⟩)
    | (go_at_call 36; (with_reducible refine (JY.out _).mono ?_); rintro e w3 ⟨rfl, rfl⟩)
    | (go_at_call 74; (with_reducible refine (JO.out _).mono ?_); rintro e w4 ⟨rfl, rfl⟩))
  refine bodyPost_ret (v := .tuple #[.agg #[.string ⟨#[]⟩, .string ⟨#[]⟩], .int .i64 12]) (results_cell_tmp rfl _ _ w.heap.size 60 #[.string ⟨#[]⟩, .string ⟨#[]⟩] (0, 0) _ (.int .i64 12) rfl rfl (sc_row _ _ R1) Tryz.underlying60 (by kernel_rfl) (by kernel_rfl)) rfl ⟨rfl, ?_⟩
  exact (b1.setCell (p := ⟨w.heap.size, 0, none⟩) (Nat.le_refl _) _).setCell (p := ⟨w.heap.size, 1, none⟩) (Nat.le_refl _) _
set_option maxRecDepth 100000 in
set_option maxHeartbeats 1600000 in
theorem pT14_14_o (s N D : ByteArray) (w : World) (hv : VarR w)
    (HC : ∀ W, VarR W → Calls Tryz.prog 73 #[.string s, .string ⟨#[47]⟩] W (CutR N D true W))
    (HX : ∀ W, Calls Tryz.prog 36 #[.string N] W (IntR 14 W)) (HY : ∀ W, Calls Tryz.prog 36 #[.string D] W (IntR 14 W))
    (HO : ∀ W, Calls Tryz.prog 74 #[.string D] W (BooR true W)) : Calls Tryz.prog 38 #[.string s] w (PrsR ⟨#[]⟩ ⟨#[]⟩ 14 w) := by
  have HB := Lib.hid ((Below.refl _ w).alloc (Nat.le_refl _) (.cells #[.string ⟨#[]⟩, .string ⟨#[]⟩] 60))
  have HR := heap_alloc_new w (.cells #[.string ⟨#[]⟩, .string ⟨#[]⟩] 60)
  have HV := Lib.hid hv
  have JC := Lib.hid HC
  have JX := Lib.hid HX
  have JY := Lib.hid HY
  have JO := Lib.hid HO
  clear hv HC HX HY HO
  go_enter Tryz.func38, Tryz.ntmps38
  go_wp2_with (first
    | (go_at_call 73; refine (JC.out _ (HV.out.below HB.out)).mono ?_; rintro e w1 ⟨rfl, k, rfl⟩; have b1 := below_drewN HB.out k; have R1 := row_drewN HR k; obtain ⟨k1, k2, k3, k4⟩ := row2 R1)
    | (go_at_call 36; (with_reducible refine (JX.out _).mono ?_); rintro e w2 ⟨rfl, rfl⟩)
    | (go_at_call 36; (with_reducible refine (JY.out _).mono ?_); rintro e w3 ⟨rfl, rfl⟩)
    | (go_at_call 74; (with_reducible refine (JO.out _).mono ?_); rintro e w4 ⟨rfl, rfl⟩))
  refine bodyPost_ret (v := .tuple #[.agg #[.string ⟨#[]⟩, .string ⟨#[]⟩], .int .i64 14]) (results_cell_tmp rfl _ _ w.heap.size 60 #[.string ⟨#[]⟩, .string ⟨#[]⟩] (0, 0) _ (.int .i64 14) rfl rfl (sc_row _ _ R1) Tryz.underlying60 (by kernel_rfl) (by kernel_rfl)) rfl ⟨rfl, ?_⟩
  exact (b1.setCell (p := ⟨w.heap.size, 0, none⟩) (Nat.le_refl _) _).setCell (p := ⟨w.heap.size, 1, none⟩) (Nat.le_refl _) _
end Go.Proofs.YtgjhgkglfflmjaaGreatDoor

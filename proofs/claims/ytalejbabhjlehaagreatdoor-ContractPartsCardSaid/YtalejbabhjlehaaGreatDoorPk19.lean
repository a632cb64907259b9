/- Joined: RatS, RatE, RatT, RatU, RatW, RatG, RatAa. -/
import Derived.Test.YtalejbabhjlehaaGreatDoorPk15
import Derived.Test.YtalejbabhjlehaaGreatDoorPk18
import Derived.Deep.RegionLaw
import Derived.Deep.RegionHeld3
import Derived.StillTailTactics
import Derived.BigRegion
/- The walks of layer 2: products by a closure that keeps the first error. -/
namespace Go.Proofs.YtalejbabhjlehaaGreatDoor
open Go Go.RowKit
end Go.Proofs.YtalejbabhjlehaaGreatDoor
/- Joined: RatE, RatF. -/
/- The walks of layer 2: parse. -/
namespace Go.Proofs.YtalejbabhjlehaaGreatDoor
open Go Go.RowKit
def parS (l : List UInt8) : List UInt8 × List UInt8 := if chkR l = 0 then (nB l, dB l) else ([], [])
def PrsR (n d : ByteArray) (c : Int) (w : World) (e : Ending) (w' : World) : Prop := e = .returned (.tuple #[.agg #[.string n, .string d], .int .i64 c]) ∧ Below w.heap.size w w'
theorem cut_parts (l : List UInt8) : (Lib.cut l [47]).1 = nB l ∧ (Lib.cut l [47]).2.2 = hB l ∧ (hB l = true → (Lib.cut l [47]).2.1 = dB l) ∧ (hB l = false → (Lib.cut l [47]).2.1 = []) := by
  rw [spl_cut]
  unfold nB hB dB
  cases h : spl l with
  | none => exact ⟨rfl, rfl, (by intro e; cases e), fun _ => rfl⟩
  | some p => exact ⟨rfl, rfl, fun _ => rfl, (by intro e; cases e)⟩
theorem row_drewN {w : World} {r : Nat} {cs : Array Value} {t : TypeId} (h : w.heap[r]? = some (.cells cs t (0, 0))) (k : Nat) : (w.drewN k).heap[r]? = some (.cells cs t (0, 0)) := h
theorem results_cell_tmp {P : Program} {fn : Func} {p q : Tmp} {ty : TypeId} (h : fn.results = #[.cell p ty, .tmp q]) (tmps : Array Value) (w : World) (g : Nat) (t : TypeId) (cs : Array Value) (fr : Nat × Nat) (d : TypeDesc) (u : Value) (hq : tmps.getD q undef = u)
    (hp : tmps.getD p undef = .pointer (some ⟨g, 0, none⟩)) (hg : w.heap[g]? = some (.cells cs t fr))
    (hu : P.underlying ty = some d) (hd : (match d with | .struct _ | .array _ _ => true | _ => false) = true) (hi : (P.info? ty).map (·.size) = some cs.size) :
    (results fn tmps).run P w = .ok (.tuple #[.agg cs, u]) w := by
  subst hq
  have hp' : tmps[p]?.getD undef = .pointer (some ⟨g, 0, none⟩) := by simpa using hp
  simp [results, h, hp', asAddr, run_loadVar_row w g t ty cs fr d hg hu hd hi]
def CutR (n b : ByteArray) (h : Bool) (w : World) (e : Ending) (w' : World) : Prop := e = .returned (.tuple #[.string n, .string b, .bool h]) ∧ ∃ k, w' = w.drewN k
def IntR (c : Int) (w : World) (e : Ending) (w' : World) : Prop := e = .returned (.int .i64 c) ∧ w = w'
def BooR (c : Bool) (w : World) (e : Ending) (w' : World) : Prop := e = .returned (.bool c) ∧ w = w'
set_option maxRecDepth 100000 in
set_option maxHeartbeats 1600000 in
theorem pF12 (s N E : ByteArray) (w : World) (hv : VarR w)
    (HC : ∀ W, VarR W → Calls Tryz.prog 134 #[.string s, .string ⟨#[47]⟩] W (CutR N E false W))
    (HX : ∀ W, Calls Tryz.prog 135 #[.string N] W (IntR 12 W)) (HY : ∀ W, Calls Tryz.prog 135 #[.string ⟨#[49]⟩] W (IntR 0 W)) : Calls Tryz.prog 123 #[.string s] w (PrsR ⟨#[]⟩ ⟨#[]⟩ 12 w) := by
  have HB := Lib.hid ((Below.refl _ w).alloc (Nat.le_refl _) (.cells #[.string ⟨#[]⟩, .string ⟨#[]⟩] 122))
  have HR := heap_alloc_new w (.cells #[.string ⟨#[]⟩, .string ⟨#[]⟩] 122)
  have HV := Lib.hid hv
  have JC := Lib.hid HC
  have JX := Lib.hid HX
  have JY := Lib.hid HY
  clear hv HC HX HY
  go_enter Tryz.func123, Tryz.ntmps123
  go_wp2_with (first
    | (go_at_call 134; refine (JC.out _ (HV.out.below HB.out)).mono ?_; rintro e w1 ⟨rfl, k, rfl⟩; have b1 := below_drewN HB.out k; have R1 := row_drewN HR k; obtain ⟨k1, k2, k3, k4⟩ := row2 R1)
    | (go_at_call 135; (with_reducible refine (JX.out _).mono ?_); rintro e w2 ⟨rfl, rfl⟩)
    | (go_at_call 135; (with_reducible refine (JY.out _).mono ?_); rintro e w3 ⟨rfl, rfl⟩))
  refine bodyPost_ret (v := .tuple #[.agg #[.string ⟨#[]⟩, .string ⟨#[]⟩], .int .i64 12]) (results_cell_tmp rfl _ _ w.heap.size 122 #[.string ⟨#[]⟩, .string ⟨#[]⟩] (0, 0) _ (.int .i64 12) rfl rfl (sc_row _ _ R1) Tryz.underlying122 (by kernel_rfl) (by kernel_rfl)) rfl ⟨rfl, ?_⟩
  exact (b1.setCell (p := ⟨w.heap.size, 0, none⟩) (Nat.le_refl _) _).setCell (p := ⟨w.heap.size, 1, none⟩) (Nat.le_refl _) _
set_option maxRecDepth 100000 in
set_option maxHeartbeats 1600000 in
theorem pF14 (s N E : ByteArray) (w : World) (hv : VarR w)
    (HC : ∀ W, VarR W → Calls Tryz.prog 134 #[.string s, .string ⟨#[47]⟩] W (CutR N E false W))
    (HX : ∀ W, Calls Tryz.prog 135 #[.string N] W (IntR 14 W)) (HY : ∀ W, Calls Tryz.prog 135 #[.string ⟨#[49]⟩] W (IntR 0 W)) : Calls Tryz.prog 123 #[.string s] w (PrsR ⟨#[]⟩ ⟨#[]⟩ 14 w) := by
  have HB := Lib.hid ((Below.refl _ w).alloc (Nat.le_refl _) (.cells #[.string ⟨#[]⟩, .string ⟨#[]⟩] 122))
  have HR := heap_alloc_new w (.cells #[.string ⟨#[]⟩, .string ⟨#[]⟩] 122)
  have HV := Lib.hid hv
  have JC := Lib.hid HC
  have JX := Lib.hid HX
  have JY := Lib.hid HY
  clear hv HC HX HY
  go_enter Tryz.func123, Tryz.ntmps123
  go_wp2_with (first
    | (go_at_call 134; refine (JC.out _ (HV.out.below HB.out)).mono ?_; rintro e w1 ⟨rfl, k, rfl⟩; have b1 := below_drewN HB.out k; have R1 := row_drewN HR k; obtain ⟨k1, k2, k3, k4⟩ := row2 R1)
    | (go_at_call 135; (with_reducible refine (JX.out _).mono ?_); rintro e w2 ⟨rfl, rfl⟩)
    | (go_at_call 135; (with_reducible refine (JY.out _).mono ?_); rintro e w3 ⟨rfl, rfl⟩))
  refine bodyPost_ret (v := .tuple #[.agg #[.string ⟨#[]⟩, .string ⟨#[]⟩], .int .i64 14]) (results_cell_tmp rfl _ _ w.heap.size 122 #[.string ⟨#[]⟩, .string ⟨#[]⟩] (0, 0) _ (.int .i64 14) rfl rfl (sc_row _ _ R1) Tryz.underlying122 (by kernel_rfl) (by kernel_rfl)) rfl ⟨rfl, ?_⟩
  exact (b1.setCell (p := ⟨w.heap.size, 0, none⟩) (Nat.le_refl _) _).setCell (p := ⟨w.heap.size, 1, none⟩) (Nat.le_refl _) _
set_option maxRecDepth 100000 in
set_option maxHeartbeats 1600000 in
theorem pF0 (s N E : ByteArray) (w : World) (hv : VarR w)
    (HC : ∀ W, VarR W → Calls Tryz.prog 134 #[.string s, .string ⟨#[47]⟩] W (CutR N E false W))
    (HX : ∀ W, Calls Tryz.prog 135 #[.string N] W (IntR 0 W)) (HY : ∀ W, Calls Tryz.prog 135 #[.string ⟨#[49]⟩] W (IntR 0 W)) : Calls Tryz.prog 123 #[.string s] w (PrsR N ⟨#[49]⟩ 0 w) := by
  have HB := Lib.hid ((Below.refl _ w).alloc (Nat.le_refl _) (.cells #[.string ⟨#[]⟩, .string ⟨#[]⟩] 122))
  have HR := heap_alloc_new w (.cells #[.string ⟨#[]⟩, .string ⟨#[]⟩] 122)
  have HV := Lib.hid hv
  have JC := Lib.hid HC
  have JX := Lib.hid HX
  have JY := Lib.hid HY
  clear hv HC HX HY
  go_enter Tryz.func123, Tryz.ntmps123
  go_wp2_with (first
    | (go_at_call 134; refine (JC.out _ (HV.out.below HB.out)).mono ?_; rintro e w1 ⟨rfl, k, rfl⟩; have b1 := below_drewN HB.out k; have R1 := row_drewN HR k; obtain ⟨k1, k2, k3, k4⟩ := row2 R1)
    | (go_at_call 135; (with_reducible refine (JX.out _).mono ?_); rintro e w2 ⟨rfl, rfl⟩)
    | (go_at_call 135; (with_reducible refine (JY.out _).mono ?_); rintro e w3 ⟨rfl, rfl⟩))
  refine bodyPost_ret (v := .tuple #[.agg #[.string N, .string ⟨#[49]⟩], .int .i64 0]) (results_cell_tmp rfl _ _ w.heap.size 122 #[.string N, .string ⟨#[49]⟩] (0, 0) _ (.int .i64 0) rfl rfl (sc_row _ _ R1) Tryz.underlying122 (by kernel_rfl) (by kernel_rfl)) rfl ⟨rfl, ?_⟩
  exact (b1.setCell (p := ⟨w.heap.size, 0, none⟩) (Nat.le_refl _) _).setCell (p := ⟨w.heap.size, 1, none⟩) (Nat.le_refl _) _
set_option maxRecDepth 100000 in
set_option maxHeartbeats 1600000 in
theorem pT0_0_n (s N D : ByteArray) (w : World) (hv : VarR w)
    (HC : ∀ W, VarR W → Calls Tryz.prog 134 #[.string s, .string ⟨#[47]⟩] W (CutR N D true W))
    (HX : ∀ W, Calls Tryz.prog 135 #[.string N] W (IntR 0 W)) (HY : ∀ W, Calls Tryz.prog 135 #[.string D] W (IntR 0 W))
    (HO : ∀ W, Calls Tryz.prog 136 #[.string D] W (BooR false W)) : Calls Tryz.prog 123 #[.string s] w (PrsR ⟨#[]⟩ ⟨#[]⟩ 12 w) := by
  have HB := Lib.hid ((Below.refl _ w).alloc (Nat.le_refl _) (.cells #[.string ⟨#[]⟩, .string ⟨#[]⟩] 122))
  have HR := heap_alloc_new w (.cells #[.string ⟨#[]⟩, .string ⟨#[]⟩] 122)
  have HV := Lib.hid hv
  have JC := Lib.hid HC
  have JX := Lib.hid HX
  have JY := Lib.hid HY
  have JO := Lib.hid HO
  clear hv HC HX HY HO
  go_enter Tryz.func123, Tryz.ntmps123
  go_wp2_with (first
    | (go_at_call 134; refine (JC.out _ (HV.out.below HB.out)).mono ?_; rintro e w1 ⟨rfl, k, rfl⟩; have b1 := below_drewN HB.out k; have R1 := row_drewN HR k; obtain ⟨k1, k2, k3, k4⟩ := row2 R1)
    | (go_at_call 135; (with_reducible refine (JX.out _).mono ?_); rintro e w2 ⟨rfl, rfl⟩)
    | (go_at_call 135; (with_reducible refine (JY.out _).mono ?_); rintro e w3 ⟨rfl, rfl⟩)
    | (go_at_call 136; (with_reducible refine (JO.out _).mono ?_); rintro e w4 ⟨rfl, rfl⟩))
  refine bodyPost_ret (v := .tuple #[.agg #[.string ⟨#[]⟩, .string ⟨#[]⟩], .int .i64 12]) (results_cell_tmp rfl _ _ w.heap.size 122 #[.string ⟨#[]⟩, .string ⟨#[]⟩] (0, 0) _ (.int .i64 12) rfl rfl (sc_row _ _ R1) Tryz.underlying122 (by kernel_rfl) (by kernel_rfl)) rfl ⟨rfl, ?_⟩
  exact (b1.setCell (p := ⟨w.heap.size, 0, none⟩) (Nat.le_refl _) _).setCell (p := ⟨w.heap.size, 1, none⟩) (Nat.le_refl _) _
set_option maxRecDepth 100000 in
set_option maxHeartbeats 1600000 in
theorem pT0_0_g (s N D G : ByteArray) (w : World) (hv : VarR w)
    (HC : ∀ W, VarR W → Calls Tryz.prog 134 #[.string s, .string ⟨#[47]⟩] W (CutR N D true W))
    (HX : ∀ W, Calls Tryz.prog 135 #[.string N] W (IntR 0 W)) (HY : ∀ W, Calls Tryz.prog 135 #[.string D] W (IntR 0 W))
    (HO : ∀ W, Calls Tryz.prog 136 #[.string D] W (BooR true W))
    (HG : ∀ W, VarT W → Calls Tryz.prog 137 #[.string N, .string D] W (StrR G W)) (hG : (G.toList == [49]) = true) : Calls Tryz.prog 123 #[.string s] w (PrsR N D 0 w) := by
  have HB := Lib.hid ((Below.refl _ w).alloc (Nat.le_refl _) (.cells #[.string ⟨#[]⟩, .string ⟨#[]⟩] 122))
  have HR := heap_alloc_new w (.cells #[.string ⟨#[]⟩, .string ⟨#[]⟩] 122)
  have HV := Lib.hid hv
  have JC := Lib.hid HC
  have JX := Lib.hid HX
  have JY := Lib.hid HY
  have JO := Lib.hid HO
  have JG := Lib.hid HG
  clear hv HC HX HY HO HG
  go_enter Tryz.func123, Tryz.ntmps123
  go_wp2_with (first
    | (go_at_call 134; refine (JC.out _ (HV.out.below HB.out)).mono ?_; rintro e w1 ⟨rfl, k, rfl⟩; have b1 := below_drewN HB.out k; have R1 := row_drewN HR k; obtain ⟨k1, k2, k3, k4⟩ := row2 R1)
    | (go_at_call 135; (with_reducible refine (JX.out _).mono ?_); rintro e w2 ⟨rfl, rfl⟩)
    | (go_at_call 135; (with_reducible refine (JY.out _).mono ?_); rintro e w3 ⟨rfl, rfl⟩)
    | (go_at_call 136; (with_reducible refine (JO.out _).mono ?_); rintro e w4 ⟨rfl, rfl⟩)
    | (go_at_call 137; refine (JG.out _ (HV.out.below b1).t).mono ?_; rintro e w5 ⟨rfl, b⟩; have b2 := bt b1 b; have R2 := row_far R1 b; obtain ⟨j1, j2, j3, j4⟩ := row2 R2; clear b))
  refine bodyPost_ret (v := .tuple #[.agg #[.string N, .string D], .int .i64 0]) (results_cell_tmp rfl _ _ w.heap.size 122 #[.string N, .string D] (0, 0) _ (.int .i64 0) rfl rfl (sc_row _ _ R2) Tryz.underlying122 (by kernel_rfl) (by kernel_rfl)) rfl ⟨rfl, ?_⟩
  exact (b2.setCell (p := ⟨w.heap.size, 0, none⟩) (Nat.le_refl _) _).setCell (p := ⟨w.heap.size, 1, none⟩) (Nat.le_refl _) _
set_option maxRecDepth 100000 in
set_option maxHeartbeats 1600000 in
theorem pT0_0_h (s N D G : ByteArray) (w : World) (hv : VarR w)
    (HC : ∀ W, VarR W → Calls Tryz.prog 134 #[.string s, .string ⟨#[47]⟩] W (CutR N D true W))
    (HX : ∀ W, Calls Tryz.prog 135 #[.string N] W (IntR 0 W)) (HY : ∀ W, Calls Tryz.prog 135 #[.string D] W (IntR 0 W))
    (HO : ∀ W, Calls Tryz.prog 136 #[.string D] W (BooR true W))
    (HG : ∀ W, VarT W → Calls Tryz.prog 137 #[.string N, .string D] W (StrR G W)) (hG : (G.toList == [49]) = false) : Calls Tryz.prog 123 #[.string s] w (PrsR ⟨#[]⟩ ⟨#[]⟩ 12 w) := by
  have HB := Lib.hid ((Below.refl _ w).alloc (Nat.le_refl _) (.cells #[.string ⟨#[]⟩, .string ⟨#[]⟩] 122))
  have HR := heap_alloc_new w (.cells #[.string ⟨#[]⟩, .string ⟨#[]⟩] 122)
  have HV := Lib.hid hv
  have JC := Lib.hid HC
  have JX := Lib.hid HX
  have JY := Lib.hid HY
  have JO := Lib.hid HO
  have JG := Lib.hid HG
  clear hv HC HX HY HO HG
  go_enter Tryz.func123, Tryz.ntmps123
  go_wp2_with (first
    | (go_at_call 134; refine (JC.out _ (HV.out.below HB.out)).mono ?_; rintro e w1 ⟨rfl, k, rfl⟩; have b1 := below_drewN HB.out k; have R1 := row_drewN HR k; obtain ⟨k1, k2, k3, k4⟩ := row2 R1)
    | (go_at_call 135; (with_reducible refine (JX.out _).mono ?_); rintro e w2 ⟨rfl, rfl⟩)
    | (go_at_call 135; (with_reducible refine (JY.out _).mono ?_); rintro e w3 ⟨rfl, rfl⟩)
    | (go_at_call 136; (with_reducible refine (JO.out _).mono ?_); rintro e w4 ⟨rfl, rfl⟩)
    | (go_at_call 137; refine (JG.out _ (HV.out.below b1).t).mono ?_; rintro e w5 ⟨rfl, b⟩; have b2 := bt b1 b; have R2 := row_far R1 b; obtain ⟨j1, j2, j3, j4⟩ := row2 R2; clear b))
  refine bodyPost_ret (v := .tuple #[.agg #[.string ⟨#[]⟩, .string ⟨#[]⟩], .int .i64 12]) (results_cell_tmp rfl _ _ w.heap.size 122 #[.string ⟨#[]⟩, .string ⟨#[]⟩] (0, 0) _ (.int .i64 12) rfl rfl (sc_row _ _ R2) Tryz.underlying122 (by kernel_rfl) (by kernel_rfl)) rfl ⟨rfl, ?_⟩
  exact (b2.setCell (p := ⟨w.heap.size, 0, none⟩) (Nat.le_refl _) _).setCell (p := ⟨w.heap.size, 1, none⟩) (Nat.le_refl _) _
set_option maxRecDepth 100000 in
set_option maxHeartbeats 1600000 in
theorem pT0_12 (s N D : ByteArray) (w : World) (hv : VarR w)
    (HC : ∀ W, VarR W → Calls Tryz.prog 134 #[.string s, .string ⟨#[47]⟩] W (CutR N D true W))
    (HX : ∀ W, Calls Tryz.prog 135 #[.string N] W (IntR 0 W)) (HY : ∀ W, Calls Tryz.prog 135 #[.string D] W (IntR 12 W)) : Calls Tryz.prog 123 #[.string s] w (PrsR ⟨#[]⟩ ⟨#[]⟩ 12 w) := by
  have HB := Lib.hid ((Below.refl _ w).alloc (Nat.le_refl _) (.cells #[.string ⟨#[]⟩, .string ⟨#[]⟩] 122))
  have HR := heap_alloc_new w (.cells #[.string ⟨#[]⟩, .string ⟨#[]⟩] 122)
  have HV := Lib.hid hv
  have JC := Lib.hid HC
  have JX := Lib.hid HX
  have JY := Lib.hid HY
  clear hv HC HX HY
  go_enter Tryz.func123, Tryz.ntmps123
  go_wp2_with (first
    | (go_at_call 134; refine (JC.out _ (HV.out.below HB.out)).mono ?_; rintro e w1 ⟨rfl, k, rfl⟩; have b1 := below_drewN HB.out k; have R1 := row_drewN HR k; obtain ⟨k1, k2, k3, k4⟩ := row2 R1)
    | (go_at_call 135; (with_reducible refine (JX.out _).mono ?_); rintro e w2 ⟨rfl, rfl⟩)
    | (go_at_call 135; (with_reducible refine (JY.out _).mono ?_); rintro e w3 ⟨rfl, rfl⟩))
  refine bodyPost_ret (v := .tuple #[.agg #[.string ⟨#[]⟩, .string ⟨#[]⟩], .int .i64 12]) (results_cell_tmp rfl _ _ w.heap.size 122 #[.string ⟨#[]⟩, .string ⟨#[]⟩] (0, 0) _ (.int .i64 12) rfl rfl (sc_row _ _ R1) Tryz.underlying122 (by kernel_rfl) (by kernel_rfl)) rfl ⟨rfl, ?_⟩
  exact (b1.setCell (p := ⟨w.heap.size, 0, none⟩) (Nat.le_refl _) _).setCell (p := ⟨w.heap.size, 1, none⟩) (Nat.le_refl _) _
set_option maxRecDepth 100000 in
set_option maxHeartbeats 1600000 in
theorem pT0_14_n (s N D : ByteArray) (w : World) (hv : VarR w)
    (HC : ∀ W, VarR W → Calls Tryz.prog 134 #[.string s, .string ⟨#[47]⟩] W (CutR N D true W))
    (HX : ∀ W, Calls Tryz.prog 135 #[.string N] W (IntR 0 W)) (HY : ∀ W, Calls Tryz.prog 135 #[.string D] W (IntR 14 W))
    (HO : ∀ W, Calls Tryz.prog 136 #[.string D] W (BooR false W)) : Calls Tryz.prog 123 #[.string s] w (PrsR ⟨#[]⟩ ⟨#[]⟩ 12 w) := by
  have HB := Lib.hid ((Below.refl _ w).alloc (Nat.le_refl _) (.cells #[.string ⟨#[]⟩, .string ⟨#[]⟩] 122))
  have HR := heap_alloc_new w (.cells #[.string ⟨#[]⟩, .string ⟨#[]⟩] 122)
  have HV := Lib.hid hv
  have JC := Lib.hid HC
  have JX := Lib.hid HX
  have JY := Lib.hid HY
  have JO := Lib.hid HO
  clear hv HC HX HY HO
  go_enter Tryz.func123, Tryz.ntmps123
  go_wp2_with (first
    | (go_at_call 134; refine (JC.out _ (HV.out.below HB.out)).mono ?_; rintro e w1 ⟨rfl, k, rfl⟩; have b1 := below_drewN HB.out k; have R1 := row_drewN HR k; obtain ⟨k1, k2, k3, k4⟩ := row2 R1)
    | (go_at_call 135; (with_reducible refine (JX.out _).mono ?_); rintro e w2 ⟨rfl, rfl⟩)
    | (go_at_call 135; (with_reducible refine (JY.out _).mono ?_); rintro e w3 ⟨rfl, rfl⟩)
    | (go_at_call 136; (with_reducible refine (JO.out _).mono ?_); rintro e w4 ⟨rfl, rfl⟩))
  refine bodyPost_ret (v := .tuple #[.agg #[.string ⟨#[]⟩, .string ⟨#[]⟩], .int .i64 12]) (results_cell_tmp rfl _ _ w.heap.size 122 #[.string ⟨#[]⟩, .string ⟨#[]⟩] (0, 0) _ (.int .i64 12) rfl rfl (sc_row _ _ R1) Tryz.underlying122 (by kernel_rfl) (by kernel_rfl)) rfl ⟨rfl, ?_⟩
  exact (b1.setCell (p := ⟨w.heap.size, 0, none⟩) (Nat.le_refl _) _).setCell (p := ⟨w.heap.size, 1, none⟩) (Nat.le_refl _) _
set_option maxRecDepth 100000 in
set_option maxHeartbeats 1600000 in
theorem pT0_14_o (s N D : ByteArray) (w : World) (hv : VarR w)
    (HC : ∀ W, VarR W → Calls Tryz.prog 134 #[.string s, .string ⟨#[47]⟩] W (CutR N D true W))
    (HX : ∀ W, Calls Tryz.prog 135 #[.string N] W (IntR 0 W)) (HY : ∀ W, Calls Tryz.prog 135 #[.string D] W (IntR 14 W))
    (HO : ∀ W, Calls Tryz.prog 136 #[.string D] W (BooR true W)) : Calls Tryz.prog 123 #[.string s] w (PrsR ⟨#[]⟩ ⟨#[]⟩ 14 w) := by
  have HB := Lib.hid ((Below.refl _ w).alloc (Nat.le_refl _) (.cells #[.string ⟨#[]⟩, .string ⟨#[]⟩] 122))
  have HR := heap_alloc_new w (.cells #[.string ⟨#[]⟩, .string ⟨#[]⟩] 122)
  have HV := Lib.hid hv
  have JC := Lib.hid HC
  have JX := Lib.hid HX
  have JY := Lib.hid HY
  have JO := Lib.hid HO
  clear hv HC HX HY HO
  go_enter Tryz.func123, Tryz.ntmps123
  go_wp2_with (first
    | (go_at_call 134; refine (JC.out _ (HV.out.below HB.out)).mono ?_; rintro e w1 ⟨rfl, k, rfl⟩; have b1 := below_drewN HB.out k; have R1 := row_drewN HR k; obtain ⟨k1, k2, k3, k4⟩ := row2 R1)
    | (go_at_call 135; (with_reducible refine (JX.out _).mono ?_); rintro e w2 ⟨rfl, rfl⟩)
    | (go_at_call 135; (with_reducible refine (JY.out _).mono ?_); rintro e w3 ⟨rfl, rfl⟩)
    | (go_at_call 136; (with_reducible refine (JO.out _).mono ?_); rintro e w4 ⟨rfl, rfl⟩))
  refine bodyPost_ret (v := .tuple #[.agg #[.string ⟨#[]⟩, .string ⟨#[]⟩], .int .i64 14]) (results_cell_tmp rfl _ _ w.heap.size 122 #[.string ⟨#[]⟩, .string ⟨#[]⟩] (0, 0) _ (.int .i64 14) rfl rfl (sc_row _ _ R1) Tryz.underlying122 (by kernel_rfl) (by kernel_rfl)) rfl ⟨rfl, ?_⟩
  exact (b1.setCell (p := ⟨w.heap.size, 0, none⟩) (Nat.le_refl _) _).setCell (p := ⟨w.heap.size, 1, none⟩) (Nat.le_refl _) _
set_option maxRecDepth 100000 in
set_option maxHeartbeats 1600000 in
theorem pT12_0 (s N D : ByteArray) (w : World) (hv : VarR w)
    (HC : ∀ W, VarR W → Calls Tryz.prog 134 #[.string s, .string ⟨#[47]⟩] W (CutR N D true W))
    (HX : ∀ W, Calls Tryz.prog 135 #[.string N] W (IntR 12 W)) (HY : ∀ W, Calls Tryz.prog 135 #[.string D] W (IntR 0 W)) : Calls Tryz.prog 123 #[.string s] w (PrsR ⟨#[]⟩ ⟨#[]⟩ 12 w) := by
  have HB := Lib.hid ((Below.refl _ w).alloc (Nat.le_refl _) (.cells #[.string ⟨#[]⟩, .string ⟨#[]⟩] 122))
  have HR := heap_alloc_new w (.cells #[.string ⟨#[]⟩, .string ⟨#[]⟩] 122)
  have HV := Lib.hid hv
  have JC := Lib.hid HC
  have JX := Lib.hid HX
  have JY := Lib.hid HY
  clear hv HC HX HY
  go_enter Tryz.func123, Tryz.ntmps123
  go_wp2_with (first
    | (go_at_call 134; refine (JC.out _ (HV.out.below HB.out)).mono ?_; rintro e w1 ⟨rfl, k, rfl⟩; have b1 := below_drewN HB.out k; have R1 := row_drewN HR k; obtain ⟨k1, k2, k3, k4⟩ := row2 R1)
    | (go_at_call 135; (with_reducible refine (JX.out _).mono ?_); rintro e w2 ⟨rfl, rfl⟩)
    | (go_at_call 135; (with_reducible refine (JY.out _).mono ?_); rintro e w3 ⟨rfl, rfl⟩))
  refine bodyPost_ret (v := .tuple #[.agg #[.string ⟨#[]⟩, .string ⟨#[]⟩], .int .i64 12]) (results_cell_tmp rfl _ _ w.heap.size 122 #[.string ⟨#[]⟩, .string ⟨#[]⟩] (0, 0) _ (.int .i64 12) rfl rfl (sc_row _ _ R1) Tryz.underlying122 (by kernel_rfl) (by kernel_rfl)) rfl ⟨rfl, ?_⟩
  exact (b1.setCell (p := ⟨w.heap.size, 0, none⟩) (Nat.le_refl _) _).setCell (p := ⟨w.heap.size, 1, none⟩) (Nat.le_refl _) _
set_option maxRecDepth 100000 in
set_option maxHeartbeats 1600000 in
theorem pT12_12 (s N D : ByteArray) (w : World) (hv : VarR w)
    (HC : ∀ W, VarR W → Calls Tryz.prog 134 #[.string s, .string ⟨#[47]⟩] W (CutR N D true W))
    (HX : ∀ W, Calls Tryz.prog 135 #[.string N] W (IntR 12 W)) (HY : ∀ W, Calls Tryz.prog 135 #[.string D] W (IntR 12 W)) : Calls Tryz.prog 123 #[.string s] w (PrsR ⟨#[]⟩ ⟨#[]⟩ 12 w) := by
  have HB := Lib.hid ((Below.refl _ w).alloc (Nat.le_refl _) (.cells #[.string ⟨#[]⟩, .string ⟨#[]⟩] 122))
  have HR := heap_alloc_new w (.cells #[.string ⟨#[]⟩, .string ⟨#[]⟩] 122)
  have HV := Lib.hid hv
  have JC := Lib.hid HC
  have JX := Lib.hid HX
  have JY := Lib.hid HY
  clear hv HC HX HY
  go_enter Tryz.func123, Tryz.ntmps123
  go_wp2_with (first
    | (go_at_call 134; refine (JC.out _ (HV.out.below HB.out)).mono ?_; rintro e w1 ⟨rfl, k, rfl⟩; have b1 := below_drewN HB.out k; have R1 := row_drewN HR k; obtain ⟨k1, k2, k3, k4⟩ := row2 R1)
    | (go_at_call 135; (with_reducible refine (JX.out _).mono ?_); rintro e w2 ⟨rfl, rfl⟩)
    | (go_at_call 135; (with_reducible refine (JY.out _).mono ?_); rintro e w3 ⟨rfl, rfl⟩))
  refine bodyPost_ret (v := .tuple #[.agg #[.string ⟨#[]⟩, .string ⟨#[]⟩], .int .i64 12]) (results_cell_tmp rfl _ _ w.heap.size 122 #[.string ⟨#[]⟩, .string ⟨#[]⟩] (0, 0) _ (.int .i64 12) rfl rfl (sc_row _ _ R1) Tryz.underlying122 (by kernel_rfl) (by kernel_rfl)) rfl ⟨rfl, ?_⟩
  exact (b1.setCell (p := ⟨w.heap.size, 0, none⟩) (Nat.le_refl _) _).setCell (p := ⟨w.heap.size, 1, none⟩) (Nat.le_refl _) _
set_option maxRecDepth 100000 in
set_option maxHeartbeats 1600000 in
theorem pT12_14 (s N D : ByteArray) (w : World) (hv : VarR w)
    (HC : ∀ W, VarR W → Calls Tryz.prog 134 #[.string s, .string ⟨#[47]⟩] W (CutR N D true W))
    (HX : ∀ W, Calls Tryz.prog 135 #[.string N] W (IntR 12 W)) (HY : ∀ W, Calls Tryz.prog 135 #[.string D] W (IntR 14 W)) : Calls Tryz.prog 123 #[.string s] w (PrsR ⟨#[]⟩ ⟨#[]⟩ 12 w) := by
  have HB := Lib.hid ((Below.refl _ w).alloc (Nat.le_refl _) (.cells #[.string ⟨#[]⟩, .string ⟨#[]⟩] 122))
  have HR := heap_alloc_new w (.cells #[.string ⟨#[]⟩, .string ⟨#[]⟩] 122)
  have HV := Lib.hid hv
  have JC := Lib.hid HC
  have JX := Lib.hid HX
  have JY := Lib.hid HY
  clear hv HC HX HY
  go_enter Tryz.func123, Tryz.ntmps123
  go_wp2_with (first
    | (go_at_call 134; refine (JC.out _ (HV.out.below HB.out)).mono ?_; rintro e w1 ⟨rfl, k, rfl⟩; have b1 := below_drewN HB.out k; have R1 := row_drewN HR k; obtain ⟨k1, k2, k3, k4⟩ := row2 R1)
    | (go_at_call 135; (with_reducible refine (JX.out _).mono ?_); rintro e w2 ⟨rfl, rfl⟩)
    | (go_at_call 135; (with_reducible refine (JY.out _).mono ?_); rintro e w3 ⟨rfl, rfl⟩))
  refine bodyPost_ret (v := .tuple #[.agg #[.string ⟨#[]⟩, .string ⟨#[]⟩], .int .i64 12]) (results_cell_tmp rfl _ _ w.heap.size 122 #[.string ⟨#[]⟩, .string ⟨#[]⟩] (0, 0) _ (.int .i64 12) rfl rfl (sc_row _ _ R1) Tryz.underlying122 (by kernel_rfl) (by kernel_rfl)) rfl ⟨rfl, ?_⟩
  exact (b1.setCell (p := ⟨w.heap.size, 0, none⟩) (Nat.le_refl _) _).setCell (p := ⟨w.heap.size, 1, none⟩) (Nat.le_refl _) _
set_option maxRecDepth 100000 in
set_option maxHeartbeats 1600000 in
theorem pT14_0_n (s N D : ByteArray) (w : World) (hv : VarR w)
    (HC : ∀ W, VarR W → Calls Tryz.prog 134 #[.string s, .string ⟨#[47]⟩] W (CutR N D true W))
    (HX : ∀ W, Calls Tryz.prog 135 #[.string N] W (IntR 14 W)) (HY : ∀ W, Calls Tryz.prog 135 #[.string D] W (IntR 0 W))
    (HO : ∀ W, Calls Tryz.prog 136 #[.string D] W (BooR false W)) : Calls Tryz.prog 123 #[.string s] w (PrsR ⟨#[]⟩ ⟨#[]⟩ 12 w) := by
  have HB := Lib.hid ((Below.refl _ w).alloc (Nat.le_refl _) (.cells #[.string ⟨#[]⟩, .string ⟨#[]⟩] 122))
  have HR := heap_alloc_new w (.cells #[.string ⟨#[]⟩, .string ⟨#[]⟩] 122)
  have HV := Lib.hid hv
  have JC := Lib.hid HC
  have JX := Lib.hid HX
  have JY := Lib.hid HY
  have JO := Lib.hid HO
  clear hv HC HX HY HO
  go_enter Tryz.func123, Tryz.ntmps123
  go_wp2_with (first
    | (go_at_call 134; refine (JC.out _ (HV.out.below HB.out)).mono ?_; rintro e w1 ⟨rfl, k, rfl⟩; have b1 := below_drewN HB.out k; have R1 := row_drewN HR k; obtain ⟨k1, k2, k3, k4⟩ := row2 R1)
    | (go_at_call 135; (with_reducible refine (JX.out _).mono ?_); rintro e w2 ⟨rfl, rfl⟩)
    | (go_at_call 135; (with_reducible refine (JY.out _).mono ?_); rintro e w3 ⟨rfl, rfl⟩)
    | (go_at_call 136; (with_reducible refine (JO.out _).mono ?_); rintro e w4 ⟨rfl, rfl⟩))
  refine bodyPost_ret (v := .tuple #[.agg #[.string ⟨#[]⟩, .string ⟨#[]⟩], .int .i64 12]) (results_cell_tmp rfl _ _ w.heap.size 122 #[.string ⟨#[]⟩, .string ⟨#[]⟩] (0, 0) _ (.int .i64 12) rfl rfl (sc_row _ _ R1) Tryz.underlying122 (by kernel_rfl) (by kernel_rfl)) rfl ⟨rfl, ?_⟩
  exact (b1.setCell (p := ⟨w.heap.size, 0, none⟩) (Nat.le_refl _) _).setCell (p := ⟨w.heap.size, 1, none⟩) (Nat.le_refl _) _
set_option maxRecDepth 100000 in
set_option maxHeartbeats 1600000 in
theorem pT14_0_o (s N D : ByteArray) (w : World) (hv : VarR w)
    (HC : ∀ W, VarR W → Calls Tryz.prog 134 #[.string s, .string ⟨#[47]⟩] W (CutR N D true W))
    (HX : ∀ W, Calls Tryz.prog 135 #[.string N] W (IntR 14 W)) (HY : ∀ W, Calls Tryz.prog 135 #[.string D] W (IntR 0 W))
    (HO : ∀ W, Calls Tryz.prog 136 #[.string D] W (BooR true W)) : Calls Tryz.prog 123 #[.string s] w (PrsR ⟨#[]⟩ ⟨#[]⟩ 14 w) := by
  have HB := Lib.hid ((Below.refl _ w).alloc (Nat.le_refl _) (.cells #[.string ⟨#[]⟩, .string ⟨#[]⟩] 122))
  have HR := heap_alloc_new w (.cells #[.string ⟨#[]⟩, .string ⟨#[]⟩] 122)
  have HV := Lib.hid hv
  have JC := Lib.hid HC
  have JX := Lib.hid HX
  have JY := Lib.hid HY
  have JO := Lib.hid HO
  clear hv HC HX HY HO
  go_enter Tryz.func123, Tryz.ntmps123
  go_wp2_with (first
    | (go_at_call 134; refine (JC.out _ (HV.out.below HB.out)).mono ?_; rintro e w1 ⟨rfl, k, rfl⟩; have b1 := below_drewN HB.out k; have R1 := row_drewN HR k; obtain ⟨k1, k2, k3, k4⟩ := row2 R1)
    | (go_at_call 135; (with_reducible refine (JX.out _).mono ?_); rintro e w2 ⟨rfl, rfl⟩)
    | (go_at_call 135; (with_reducible refine (JY.out _).mono ?_); rintro e w3 ⟨rfl, rfl⟩)
    | (go_at_call 136; (with_reducible refine (JO.out _).mono ?_); rintro e w4 ⟨rfl, rfl⟩))
  refine bodyPost_ret (v := .tuple #[.agg #[.string ⟨#[]⟩, .string ⟨#[]⟩], .int .i64 14]) (results_cell_tmp rfl _ _ w.heap.size 122 #[.string ⟨#[]⟩, .string ⟨#[]⟩] (0, 0) _ (.int .i64 14) rfl rfl (sc_row _ _ R1) Tryz.underlying122 (by kernel_rfl) (by kernel_rfl)) rfl ⟨rfl, ?_⟩
  exact (b1.setCell (p := ⟨w.heap.size, 0, none⟩) (Nat.le_refl _) _).setCell (p := ⟨w.heap.size, 1, none⟩) (Nat.le_refl _) _
set_option maxRecDepth 100000 in
set_option maxHeartbeats 1600000 in
theorem pT14_12 (s N D : ByteArray) (w : World) (hv : VarR w)
    (HC : ∀ W, VarR W → Calls Tryz.prog 134 #[.string s, .string ⟨#[47]⟩] W (CutR N D true W))
    (HX : ∀ W, Calls Tryz.prog 135 #[.string N] W (IntR 14 W)) (HY : ∀ W, Calls Tryz.prog 135 #[.string D] W (IntR 12 W)) : Calls Tryz.prog 123 #[.string s] w (PrsR ⟨#[]⟩ ⟨#[]⟩ 12 w) := by
  have HB := Lib.hid ((Below.refl _ w).alloc (Nat.le_refl _) (.cells #[.string ⟨#[]⟩, .string ⟨#[]⟩] 122))
  have HR := heap_alloc_new w (.cells #[.string ⟨#[]⟩, .string ⟨#[]⟩] 122)
  have HV := Lib.hid hv
  have JC := Lib.hid HC
  have JX := Lib.hid HX
  have JY := Lib.hid HY
  clear hv HC HX HY
  go_enter Tryz.func123, Tryz.ntmps123
  go_wp2_with (first
    | (go_at_call 134; refine (JC.out _ (HV.out.below HB.out)).mono ?_; rintro e w1 ⟨rfl, k, rfl⟩; have b1 := below_drewN HB.out k; have R1 := row_drewN HR k; obtain ⟨k1, k2, k3, k4⟩ := row2 R1)
    | (go_at_call 135; (with_reducible refine (JX.out _).mono ?_); rintro e w2 ⟨rfl, rfl⟩)
    | (go_at_call 135; (with_reducible refine (JY.out _).mono ?_); rintro e w3 ⟨rfl, rfl⟩))
  refine bodyPost_ret (v := .tuple #[.agg #[.string ⟨#[]⟩, .string ⟨#[]⟩], .int .i64 12]) (results_cell_tmp rfl _ _ w.heap.size 122 #[.string ⟨#[]⟩, .string ⟨#[]⟩] (0, 0) _ (.int .i64 12) rfl rfl (sc_row _ _ R1) Tryz.underlying122 (by kernel_rfl) (by kernel_rfl)) rfl ⟨rfl, ?_⟩
  exact (b1.setCell (p := ⟨w.heap.size, 0, none⟩) (Nat.le_refl _) _).setCell (p := ⟨w.heap.size, 1, none⟩) (Nat.le_refl _) _
set_option maxRecDepth 100000 in
set_option maxHeartbeats 1600000 in
theorem pT14_14_n (s N D : ByteArray) (w : World) (hv : VarR w)
    (HC : ∀ W, VarR W → Calls Tryz.prog 134 #[.string s, .string ⟨#[47]⟩] W (CutR N D true W))
    (HX : ∀ W, Calls Tryz.prog 135 #[.string N] W (IntR 14 W)) (HY : ∀ W, Calls Tryz.prog 135 #[.string D] W (IntR 14 W))
    (HO : ∀ W, Calls Tryz.prog 136 #[.string D] W (BooR false W)) : Calls Tryz.prog 123 #[.string s] w (PrsR ⟨#[]⟩ ⟨#[]⟩ 12 w) := by
  have HB := Lib.hid ((Below.refl _ w).alloc (Nat.le_refl _) (.cells #[.string ⟨#[]⟩, .string ⟨#[]⟩] 122))
  have HR := heap_alloc_new w (.cells #[.string ⟨#[]⟩, .string ⟨#[]⟩] 122)
  have HV := Lib.hid hv
  have JC := Lib.hid HC
  have JX := Lib.hid HX
  have JY := Lib.hid HY
  have JO := Lib.hid HO
  clear hv HC HX HY HO
  go_enter Tryz.func123, Tryz.ntmps123
  go_wp2_with (first
    | (go_at_call 134; refine (JC.out _ (HV.out.below HB.out)).mono ?_; rintro e w1 ⟨rfl, k, rfl⟩; have b1 := below_drewN HB.out k; have R1 := row_drewN HR k; obtain ⟨k1, k2, k3, k4⟩ := row2 R1)
    | (go_at_call 135; (with_reducible refine (JX.out _).mono ?_); rintro e w2 ⟨rfl, rfl⟩)
    | (go_at_call 135; (with_reducible refine (JY.out _).mono ?_); rintro e w3 ⟨rfl, rfl⟩)
    | (go_at_call 136; (with_reducible refine (JO.out _).mono ?_); rintro e w4 ⟨rfl, rfl⟩))
  refine bodyPost_ret (v := .tuple #[.agg #[.string ⟨#[]⟩, .string ⟨#[]⟩], .int .i64 12]) (results_cell_tmp rfl _ _ w.heap.size 122 #[.string ⟨#[]⟩, .string ⟨#[]⟩] (0, 0) _ (.int .i64 12) rfl rfl (sc_row _ _ R1) Tryz.underlying122 (by kernel_rfl) (by kernel_rfl)) rfl ⟨rfl, ?_⟩
  exact (b1.setCell (p := ⟨w.heap.size, 0, none⟩) (Nat.le_refl _) _).setCell (p := ⟨w.heap.size, 1, none⟩) (Nat.le_refl _) _
set_option maxRecDepth 100000 in
set_option maxHeartbeats 1600000 in
theorem pT14_14_o (s N D : ByteArray) (w : World) (hv : VarR w)
    (HC : ∀ W, VarR W → Calls Tryz.prog 134 #[.string s, .string ⟨#[47]⟩] W (CutR N D true W))
    (HX : ∀ W, Calls Tryz.prog 135 #[.string N] W (IntR 14 W)) (HY : ∀ W, Calls Tryz.prog 135 #[.string D] W (IntR 14 W))
    (HO : ∀ W, Calls Tryz.prog 136 #[.string D] W (BooR true W)) : Calls Tryz.prog 123 #[.string s] w (PrsR ⟨#[]⟩ ⟨#[]⟩ 14 w) := by
  have HB := Lib.hid ((Below.refl _ w).alloc (Nat.le_refl _) (.cells #[.string ⟨#[]⟩, .string ⟨#[]⟩] 122))
  have HR := heap_alloc_new w (.cells #[.string ⟨#[]⟩, .string ⟨#[]⟩] 122)
  have HV := Lib.hid hv
  have JC := Lib.hid HC
  have JX := Lib.hid HX
  have JY := Lib.hid HY
  have JO := Lib.hid HO
  clear hv HC HX HY HO
  go_enter Tryz.func123, Tryz.ntmps123
  go_wp2_with (first
    | (go_at_call 134; refine (JC.out _ (HV.out.below HB.out)).mono ?_; rintro e w1 ⟨rfl, k, rfl⟩; have b1 := below_drewN HB.out k; have R1 := row_drewN HR k; obtain ⟨k1, k2, k3, k4⟩ := row2 R1)
    | (go_at_call 135; (with_reducible refine (JX.out _).mono ?_); rintro e w2 ⟨rfl, rfl⟩)
    | (go_at_call 135; (with_reducible refine (JY.out _).mono ?_); rintro e w3 ⟨rfl, rfl⟩)
    | (go_at_call 136; (with_reducible refine (JO.out _).mono ?_); rintro e w4 ⟨rfl, rfl⟩))
  refine bodyPost_ret (v := .tuple #[.agg #[.string ⟨#[]⟩, .string ⟨#[]⟩], .int .i64 14]) (results_cell_tmp rfl _ _ w.heap.size 122 #[.string ⟨#[]⟩, .string ⟨#[]⟩] (0, 0) _ (.int .i64 14) rfl rfl (sc_row _ _ R1) Tryz.underlying122 (by kernel_rfl) (by kernel_rfl)) rfl ⟨rfl, ?_⟩
  exact (b1.setCell (p := ⟨w.heap.size, 0, none⟩) (Nat.le_refl _) _).setCell (p := ⟨w.heap.size, 1, none⟩) (Nat.le_refl _) _
end Go.Proofs.YtalejbabhjlehaaGreatDoor
/- The walks of layer 2: parse as a whole; Parts. -/
namespace Go.Proofs.YtalejbabhjlehaaGreatDoor
open Go Go.RowKit
theorem chkR_eq {l : List UInt8} {x y : Int} {h o : Bool} {g : Nat} (hx : chk (nB l) = x) (hy : chk (dB l) = y) (hh : hB l = h) (ho : okD (dB l) = o) (hg : Nat.gcd (num (nB l)).natAbs (num (dB l)).natAbs = g) :
    chkR l = if x = 12 ∨ y = 12 ∨ (h = true ∧ o = false) then 12 else if ¬ x = 0 ∨ ¬ y = 0 then 14 else if h = true ∧ ¬ g = 1 then 12 else 0 := by
  subst hx; subst hy; subst hh; subst ho; subst hg; rfl
theorem parS_err {l : List UInt8} {c : Int} (h : chkR l = c) (hc : ¬ c = 0) : (⟨(parS l).1.toArray⟩ : ByteArray) = ⟨#[]⟩ ∧ (⟨(parS l).2.toArray⟩ : ByteArray) = ⟨#[]⟩ := by
  unfold parS; rw [if_neg (by rw [h]; exact hc)]; exact ⟨rfl, rfl⟩
theorem parS_ok {l : List UInt8} (h : chkR l = 0) : (⟨(parS l).1.toArray⟩ : ByteArray) = ⟨(nB l).toArray⟩ ∧ (⟨(parS l).2.toArray⟩ : ByteArray) = ⟨(dB l).toArray⟩ := by
  unfold parS; rw [if_pos h]; exact ⟨rfl, rfl⟩
theorem gcd_text {l m : List UInt8} (hl : chk l = 0) (hm : chk m = 0) : (gcS l m).1 = Lib.itoa ((Nat.gcd (num l).natAbs (num m).natAbs : Nat) : Int) := by
  rw [gcS_ok (by unfold bothE; rw [if_pos hl]; exact hm)]
theorem itoa_is_one (g : Nat) : ((⟨(Lib.itoa (g : Int)).toArray⟩ : ByteArray).toList == [49]) = decide (g = 1) := by
  rw [Lib.toList_data, Bool.eq_iff_iff, beq_iff_eq, decide_eq_true_iff]
  constructor
  · intro h
    have h2 : Lib.itoa (g : Int) = Lib.itoa 1 := h.trans (by decide +kernel)
    have := itoa_inj h2
    omega
  · rintro rfl; show Lib.itoa 1 = [49]; decide +kernel
set_option maxHeartbeats 800000 in
theorem parse_rat (s : ByteArray) (hs : s.size ≤ 1048576) (w : World) (hv : VarR w) :
    Calls Tryz.prog 123 #[.string s] w (PrsR ⟨(parS s.data.toList).1.toArray⟩ ⟨(parS s.data.toList).2.toArray⟩ (chkR s.data.toList) w) := by
  obtain ⟨c1, c2, c3, c4⟩ := cut_parts s.data.toList
  have hl1 := nB_len s.data.toList
  have hl2 := dB_len s.data.toList
  rw [← Lib.size_eq] at hl1 hl2
  have HC : ∀ W, VarR W → Calls Tryz.prog 134 #[.string s, .string ⟨#[47]⟩] W (CutR ⟨(nB s.data.toList).toArray⟩ ⟨(Lib.cut s.data.toList [47]).2.1.toArray⟩ (hB s.data.toList) W) := fun W hW => by
    obtain ⟨m, hm⟩ := hW.ml
    have := Tryz.strings_Cut s ⟨#[47]⟩ m W (by omega) hm
    rw [show (⟨#[47]⟩ : ByteArray).data.toList = [47] from rfl, c1, c2] at this
    exact this
  have HX : ∀ W, Calls Tryz.prog 135 #[.string ⟨(nB s.data.toList).toArray⟩] W (IntR (chk (nB s.data.toList)) W) := fun W => check_any ⟨(nB s.data.toList).toArray⟩ W (by show (nB s.data.toList).length ≤ maxLen; unfold maxLen; omega)
  have HY : ∀ W, Calls Tryz.prog 135 #[.string ⟨(dB s.data.toList).toArray⟩] W (IntR (chk (dB s.data.toList)) W) := fun W => check_any ⟨(dB s.data.toList).toArray⟩ W (by show (dB s.data.toList).length ≤ maxLen; unfold maxLen; omega)
  have HO : ∀ W, Calls Tryz.prog 136 #[.string ⟨(dB s.data.toList).toArray⟩] W (BooR (okD (dB s.data.toList)) W) := fun W => aboveOne_any ⟨(dB s.data.toList).toArray⟩ _ rfl W
  have HG : chk (nB s.data.toList) = 0 → chk (dB s.data.toList) = 0 → ∀ W, VarT W → Calls Tryz.prog 137 #[.string ⟨(nB s.data.toList).toArray⟩, .string ⟨(dB s.data.toList).toArray⟩] W
      (StrR ⟨(Lib.itoa ((Nat.gcd (num (nB s.data.toList)).natAbs (num (dB s.data.toList)).natAbs : Nat) : Int)).toArray⟩ W) := fun hx hy W hW => by
    have := divisor_any ⟨(nB s.data.toList).toArray⟩ ⟨(dB s.data.toList).toArray⟩ (by show (nB s.data.toList).length ≤ maxLen; unfold maxLen; omega) (by show (dB s.data.toList).length ≤ maxLen; unfold maxLen; omega) _ rfl W hW
    rw [show (⟨(nB s.data.toList).toArray⟩ : ByteArray).data.toList = nB s.data.toList from rfl, show (⟨(dB s.data.toList).toArray⟩ : ByteArray).data.toList = dB s.data.toList from rfl, gcd_text hx hy] at this
    exact this
  have hgt := itoa_is_one (Nat.gcd (num (nB s.data.toList)).natAbs (num (dB s.data.toList)).natAbs)
  have HP := fun c (h : chkR s.data.toList = c) (hc : ¬ c = 0) => parS_err h hc
  have HQ := parS_ok (l := s.data.toList)
  have HE := @chkR_eq s.data.toList
  cases hh : hB s.data.toList
  · have hd := dB_plain hh
    rw [hh] at HC
    have hdl : (⟨(dB s.data.toList).toArray⟩ : ByteArray) = ⟨#[49]⟩ := by rw [hd]
    have hy : chk (dB s.data.toList) = 0 := by rw [hd]; exact chk_one
    rw [hdl, hy] at HY
    rcases chk_cases (nB s.data.toList) with hx | hx | hx
    · rw [hx] at HX
      have e := HE hx hy hh rfl rfl
      simp at e
      obtain ⟨p1, p2⟩ := HQ e
      rw [e, p1, p2, hdl]
      exact pF0 s _ _ w hv HC HX HY
    · rw [hx] at HX
      have e := HE hx hy hh rfl rfl
      simp at e
      obtain ⟨p1, p2⟩ := HP _ e (by decide)
      rw [e, p1, p2]
      exact pF12 s _ _ w hv HC HX HY
    · rw [hx] at HX
      have e := HE hx hy hh rfl rfl
      simp at e
      obtain ⟨p1, p2⟩ := HP _ e (by decide)
      rw [e, p1, p2]
      exact pF14 s _ _ w hv HC HX HY
  · rw [hh, c3 hh] at HC
    rcases chk_cases (nB s.data.toList) with hx | hx | hx <;> rcases chk_cases (dB s.data.toList) with hy | hy | hy <;> cases ho : okD (dB s.data.toList)
    all_goals
      rw [hx] at HX
      rw [hy] at HY
      rw [ho] at HO
    · have e := HE hx hy hh ho rfl
      simp at e
      obtain ⟨p1, p2⟩ := HP _ e (by decide)
      rw [e, p1, p2]
      exact pT0_0_n s _ _ w hv HC HX HY HO
    · by_cases hg : Nat.gcd (num (nB s.data.toList)).natAbs (num (dB s.data.toList)).natAbs = 1
      · have e := HE hx hy hh ho hg
        simp at e
        obtain ⟨p1, p2⟩ := HQ e
        rw [e, p1, p2]
        exact pT0_0_g s _ _ _ w hv HC HX HY HO (HG hx hy) (by rw [hgt]; exact decide_eq_true hg)
      · have e := HE hx hy hh ho rfl
        simp [hg] at e
        obtain ⟨p1, p2⟩ := HP _ e (by decide)
        rw [e, p1, p2]
        exact pT0_0_h s _ _ _ w hv HC HX HY HO (HG hx hy) (by rw [hgt]; exact decide_eq_false hg)
    all_goals
      have e := HE hx hy hh ho rfl
      simp at e
      obtain ⟨p1, p2⟩ := HP _ e (by decide)
      rw [e, p1, p2]
      first
        | exact pT0_12 s _ _ w hv HC HX HY
        | exact pT0_14_n s _ _ w hv HC HX HY HO
        | exact pT0_14_o s _ _ w hv HC HX HY HO
        | exact pT12_0 s _ _ w hv HC HX HY
        | exact pT12_12 s _ _ w hv HC HX HY
        | exact pT12_14 s _ _ w hv HC HX HY
        | exact pT14_0_n s _ _ w hv HC HX HY HO
        | exact pT14_0_o s _ _ w hv HC HX HY HO
        | exact pT14_12 s _ _ w hv HC HX HY
        | exact pT14_14_n s _ _ w hv HC HX HY HO
        | exact pT14_14_o s _ _ w hv HC HX HY HO
end Go.Proofs.YtalejbabhjlehaaGreatDoor
/- The walks of layer 2: product, inverse, quotient. -/
namespace Go.Proofs.YtalejbabhjlehaaGreatDoor
open Go Go.RowKit
end Go.Proofs.YtalejbabhjlehaaGreatDoor
/- The walks of layer 2: sums and differences. -/
namespace Go.Proofs.YtalejbabhjlehaaGreatDoor
open Go Go.RowKit
end Go.Proofs.YtalejbabhjlehaaGreatDoor
/- Joined: RatW, RatX, RatY, RatZ. -/
/- The walks of layer 2: inverse, quotient. -/
namespace Go.Proofs.YtalejbabhjlehaaGreatDoor
open Go Go.RowKit
end Go.Proofs.YtalejbabhjlehaaGreatDoor
/- The walks of layer 2: parseTwo, calculate, Add, Sub, Mul, Div. -/
namespace Go.Proofs.YtalejbabhjlehaaGreatDoor
open Go Go.RowKit
section
variable (s t : ByteArray) (w : World) (hv : VarR w)
include hv
end
end Go.Proofs.YtalejbabhjlehaaGreatDoor
/- The walks of layer 2: calculate. -/
namespace Go.Proofs.YtalejbabhjlehaaGreatDoor
open Go Go.RowKit
end Go.Proofs.YtalejbabhjlehaaGreatDoor
/- The walks of layer 2: the operations on rationals: sums, differences, products, quotients. -/
namespace Go.Proofs.YtalejbabhjlehaaGreatDoor
open Go Go.RowKit
end Go.Proofs.YtalejbabhjlehaaGreatDoor
/- Joined: RatG, RatH, RatI, RatJ, RatK. -/
/- The walks of layer 2: Parts; of its reference: Slash, written. -/
namespace Go.Proofs.YtalejbabhjlehaaGreatDoor
open Go Go.RowKit
end Go.Proofs.YtalejbabhjlehaaGreatDoor
/- The walks of the reference of layer 2: Check. -/
namespace Go.Proofs.YtalejbabhjlehaaGreatDoor
open Go Go.RowKit
def IntB (c : Int) (w : World) (e : Ending) (w' : World) : Prop := e = .returned (.int .i64 c) ∧ Below w.heap.size w w'
end Go.Proofs.YtalejbabhjlehaaGreatDoor
/- The walks of the reference of layer 2: Check as a whole, Great, Four. -/
namespace Go.Proofs.YtalejbabhjlehaaGreatDoor
open Go Go.RowKit
end Go.Proofs.YtalejbabhjlehaaGreatDoor
/- The walks of the reference of layer 2: Make. -/
namespace Go.Proofs.YtalejbabhjlehaaGreatDoor
open Go Go.RowKit
section
variable {x y : Int} (hx : x.natAbs < lim) (hy : y.natAbs < lim)
include hx hy
end
end Go.Proofs.YtalejbabhjlehaaGreatDoor
/- The walks of the reference of layer 2: Great, Four. -/
namespace Go.Proofs.YtalejbabhjlehaaGreatDoor
open Go Go.RowKit
end Go.Proofs.YtalejbabhjlehaaGreatDoor
/- Joined: RatAa, RatAb. -/
/- The walks of layer 2: Check, Add, Sub, Mul, Div, Compare on texts. -/
namespace Go.Proofs.YtalejbabhjlehaaGreatDoor
open Go Go.RowKit
set_option maxRecDepth 100000 in
set_option maxHeartbeats 1600000 in
theorem rcheck_any (s : ByteArray) (hs : s.size ≤ 1048576) (w : World) (hv : VarR w) :
    Calls Tryz.prog 109 #[.string s] w (IntB (chkR s.data.toList) w) := by
  have HP := Lib.hid (parse_rat s hs w hv)
  generalize (⟨(parS s.data.toList).1.toArray⟩ : ByteArray) = N at *
  generalize (⟨(parS s.data.toList).2.toArray⟩ : ByteArray) = D at *
  generalize chkR s.data.toList = c at *
  clear hv hs
  go_enter Tryz.func109, Tryz.ntmps109
  go_wp2_with (go_at_call 123; refine HP.out.mono ?_; rintro e w1 ⟨rfl, b1⟩)
  go_ret
  exact ⟨rfl, b1.alloc b1.size _⟩
end Go.Proofs.YtalejbabhjlehaaGreatDoor
/- The walks of layer 2: Compare. -/
namespace Go.Proofs.YtalejbabhjlehaaGreatDoor
open Go Go.RowKit
end Go.Proofs.YtalejbabhjlehaaGreatDoor

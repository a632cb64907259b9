/- Joined: RatS, RatE, RatT, RatU, RatW, RatG, RatAa. -/
import Derived.Test.YtbfimfjhdbpenaaGreatDoorPk13
import Derived.Test.YtbfimfjhdbpenaaGreatDoorPk16
import Derived.Deep.RegionLaw
import Derived.Deep.RegionHeld3
import Derived.StillTailTactics
import Derived.BigRegion
/- The walks of layer 2: products by a closure that keeps the first error. -/
namespace Go.Proofs.YtbfimfjhdbpenaaGreatDoor
open Go Go.RowKit
end Go.Proofs.YtbfimfjhdbpenaaGreatDoor
/- Joined: RatE, RatF. -/
/- The walks of layer 2: parse. -/
namespace Go.Proofs.YtbfimfjhdbpenaaGreatDoor
open Go Go.RowKit
def parS (l : List UInt8) : List UInt8 × List UInt8 := if chkR l = 0 then (nB l, dB l) else ([], [])
def PrsR (n d : ByteArray) (c : Int) (w : World) (e : Ending) (w' : World) : Prop := e = .returned (.tuple #[.agg #[.string n, .string d], .int .i64 c]) ∧ Below w.heap.size w w'
theorem cut_parts (l : List UInt8) : (Lib.cut l [47]).1 = nB l ∧ (Lib.cut l [47]).2.2 = hB l ∧ (hB l = true → (Lib.cut l [47]).2.1 = dB l) ∧ (hB l = false → (Lib.cut l [47]).2.1 = []) := by
  rw [spl_cut]
  unfold nB hB dB
  cases h : spl l with
  | none => exact ⟨rfl, rfl, (by intro e; cases e), fun _ => rfl⟩
  | some p => exact ⟨rfl, rfl, fun _ => rfl, (by intro e; cases e)⟩
theorem row_drewN {w : World} {r : Nat} {cs : Array Value} {t : TypeId} (h : w.heap[r]? = some (.cells cs t (0, 0))) (k : Nat) : (w.drewN k).heap[r]? = some (.cells cs t (0, 0)) := h
theorem results_cell_tmp {P : Program} {fn : Func} {p q : Tmp} {ty : TypeId} (h : fn.results = #[.cell p ty, .tmp q]) (tmps : Array Value) (w : World) (g : Nat) (t : TypeId) (cs : Array Value) (fr : Nat × Nat) (d : TypeDesc) (u : Value) (hq : tmps.getD q undef = u)
    (hp : tmps.getD p undef = .pointer (some ⟨g, 0, none⟩)) (hg : w.heap[g]? = some (.cells cs t fr))
    (hu : P.underlying ty = some d) (hd : (match d with | .struct _ | .array _ _ => true | _ => false) = true) (hi : (P.info? ty).map (·.size) = some cs.size) :
    (results fn tmps).run P w = .ok (.tuple #[.agg cs, u]) w := by
  subst hq
  have hp' : tmps[p]?.getD undef = .pointer (some ⟨g, 0, none⟩) := by simpa using hp
  simp [results, h, hp', asAddr, run_loadVar_row w g t ty cs fr d hg hu hd hi]
def CutR (n b : ByteArray) (h : Bool) (w : World) (e : Ending) (w' : World) : Prop := e = .returned (.tuple #[.string n, .string b, .bool h]) ∧ ∃ k, w' = w.drewN k
def IntR (c : Int) (w : World) (e : Ending) (w' : World) : Prop := e = .returned (.int .i64 c) ∧ w = w'
def BooR (c : Bool) (w : World) (e : Ending) (w' : World) : Prop := e = .returned (.bool c) ∧ w = w'
set_option maxRecDepth 100000 in
set_option maxHeartbeats 1600000 in
theorem pF12 (s N E : ByteArray) (w : World) (hv : VarR w)
    (HC : ∀ W, VarR W → Calls Tryz.prog 135 #[.string s, .string ⟨#[47]⟩] W (CutR N E false W))
    (HX : ∀ W, Calls Tryz.prog 118 #[.string N] W (IntR 12 W)) (HY : ∀ W, Calls Tryz.prog 118 #[.string ⟨#[49]⟩] W (IntR 0 W)) : Calls Tryz.prog 96 #[.string s] w (PrsR ⟨#[]⟩ ⟨#[]⟩ 12 w) := by
  have HB := Lib.hid ((Below.refl _ w).alloc (Nat.le_refl _) (.cells #[.string ⟨#[]⟩, .string ⟨#[]⟩] 111))
  have HR := heap_alloc_new w (.cells #[.string ⟨#[]⟩, .string ⟨#[]⟩] 111)
  have HV := Lib.hid hv
  have JC := Lib.hid HC
  have JX := Lib.hid HX
  have JY := Lib.hid HY
  clear hv HC HX HY
  go_enter Tryz.func96, Tryz.ntmps96
  go_wp2_with (first
    | (go_at_call 135; refine (JC.out _ (HV.out.below HB.out)).mono ?_; rintro e w1 ⟨rfl, k, rfl⟩; have b1 := below_drewN HB.out k; have R1 := row_drewN HR k; obtain ⟨k1, k2, k3, k4⟩ := row2 R1)
    | (go_at_call 118; (with_reducible refine (JX.out _).mono ?_); rintro e w2 ⟨rfl, rfl⟩)
    | (go_at_call 118; (with_reducible refine (JY.out _).mono ?_); rintro e w3 ⟨rfl, rfl⟩))
  refine bodyPost_ret (v := .tuple #[.agg #[.string ⟨#[]⟩, .string ⟨#[]⟩], .int .i64 12]) (results_cell_tmp rfl _ _ w.heap.size 111 #[.string ⟨#[]⟩, .string ⟨#[]⟩] (0, 0) _ (.int .i64 12) rfl rfl (sc_row _ _ R1) Tryz.underlying111 (by kernel_rfl) (by kernel_rfl)) rfl ⟨rfl, ?_⟩
  exact (b1.setCell (p := ⟨w.heap.size, 0, none⟩) (Nat.le_refl _) _).setCell (p := ⟨w.heap.size, 1, none⟩) (Nat.le_refl _) _
set_option maxRecDepth 100000 in
set_option maxHeartbeats 1600000 in
theorem pF14 (s N E : ByteArray) (w : World) (hv : VarR w)
    (HC : ∀ W, VarR W → Calls Tryz.prog 135 #[.string s, .string ⟨#[47]⟩] W (CutR N E false W))
    (HX : ∀ W, Calls Tryz.prog 118 #[.string N] W (IntR 14 W)) (HY : ∀ W, Calls Tryz.prog 118 #[.string ⟨#[49]⟩] W (IntR 0 W)) : Calls Tryz.prog 96 #[.string s] w (PrsR ⟨#[]⟩ ⟨#[]⟩ 14 w) := by
  have HB := Lib.hid ((Below.refl _ w).alloc (Nat.le_refl _) (.cells #[.string ⟨#[]⟩, .string ⟨#[]⟩] 111))
  have HR := heap_alloc_new w (.cells #[.string ⟨#[]⟩, .string ⟨#[]⟩] 111)
  have HV := Lib.hid hv
  have JC := Lib.hid HC
  have JX := Lib.hid HX
  have JY := Lib.hid HY
  clear hv HC HX HY
  go_enter Tryz.func96, Tryz.ntmps96
  go_wp2_with (first
    | (go_at_call 135; refine (JC.out _ (HV.out.below HB.out)).mono ?_; rintro e w1 ⟨rfl, k, rfl⟩; have b1 := below_drewN HB.out k; have R1 := row_drewN HR k; obtain ⟨k1, k2, k3, k4⟩ := row2 R1)
    | (go_at_call 118; (with_reducible refine (JX.out _).mono ?_); rintro e w2 ⟨rfl, rfl⟩)
    | (go_at_call 118; (with_reducible refine (JY.out _).mono ?_); rintro e w3 ⟨rfl, rfl⟩))
  refine bodyPost_ret (v := .tuple #[.agg #[.string ⟨#[]⟩, .string ⟨#[]⟩], .int .i64 14]) (results_cell_tmp rfl _ _ w.heap.size 111 #[.string ⟨#[]⟩, .string ⟨#[]⟩] (0, 0) _ (.int .i64 14) rfl rfl (sc_row _ _ R1) Tryz.underlying111 (by kernel_rfl) (by kernel_rfl)) rfl ⟨rfl, ?_⟩
  exact (b1.setCell (p := ⟨w.heap.size, 0, none⟩) (Nat.le_refl _) _).setCell (p := ⟨w.heap.size, 1, none⟩) (Nat.le_refl _) _
set_option maxRecDepth 100000 in
set_option maxHeartbeats 1600000 in
theorem pF0 (s N E : ByteArray) (w : World) (hv : VarR w)
    (HC : ∀ W, VarR W → Calls Tryz.prog 135 #[.string s, .string ⟨#[47]⟩] W (CutR N E false W))
    (HX : ∀ W, Calls Tryz.prog 118 #[.string N] W (IntR 0 W)) (HY : ∀ W, Calls Tryz.prog 118 #[.string ⟨#[49]⟩] W (IntR 0 W)) : Calls Tryz.prog 96 #[.string s] w (PrsR N ⟨#[49]⟩ 0 w) := by
  have HB := Lib.hid ((Below.refl _ w).alloc (Nat.le_refl _) (.cells #[.string ⟨#[]⟩, .string ⟨#[]⟩] 111))
  have HR := heap_alloc_new w (.cells #[.string ⟨#[]⟩, .string ⟨#[]⟩] 111)
  have HV := Lib.hid hv
  have JC := Lib.hid HC
  have JX := Lib.hid HX
  have JY := Lib.hid HY
  clear hv HC HX HY
  go_enter Tryz.func96, Tryz.ntmps96
  go_wp2_with (first
    | (go_at_call 135; refine (JC.out _ (HV.out.below HB.out)).mono ?_; rintro e w1 ⟨rfl, k, rfl⟩; have b1 := below_drewN HB.out k; have R1 := row_drewN HR k; obtain ⟨k1, k2, k3, k4⟩ := row2 R1)
    | (go_at_call 118; (with_reducible refine (JX.out _).mono ?_); rintro e w2 ⟨rfl, rfl⟩)
    | (go_at_call 118; (with_reducible refine (JY.out _).mono ?_); rintro e w3 ⟨rfl, rfl⟩))
  refine bodyPost_ret (v := .tuple #[.agg #[.string N, .string ⟨#[49]⟩], .int .i64 0]) (results_cell_tmp rfl _ _ w.heap.size 111 #[.string N, .string ⟨#[49]⟩] (0, 0) _ (.int .i64 0) rfl rfl (sc_row _ _ R1) Tryz.underlying111 (by kernel_rfl) (by kernel_rfl)) rfl ⟨rfl, ?_⟩
  exact (b1.setCell (p := ⟨w.heap.size, 0, none⟩) (Nat.le_refl _) _).setCell (p := ⟨w.heap.size, 1, none⟩) (Nat.le_refl _) _
set_option maxRecDepth 100000 in
set_option maxHeartbeats 1600000 in
theorem pT0_0_n (s N D : ByteArray) (w : World) (hv : VarR w)
    (HC : ∀ W, VarR W → Calls Tryz.prog 135 #[.string s, .string ⟨#[47]⟩] W (CutR N D true W))
    (HX : ∀ W, Calls Tryz.prog 118 #[.string N] W (IntR 0 W)) (HY : ∀ W, Calls Tryz.prog 118 #[.string D] W (IntR 0 W))
    (HO : ∀ W, Calls Tryz.prog 136 #[.string D] W (BooR false W)) : Calls Tryz.prog 96 #[.string s] w (PrsR ⟨#[]⟩ ⟨#[]⟩ 12 w) := by
  have HB := Lib.hid ((Below.refl _ w).alloc (Nat.le_refl _) (.cells #[.string ⟨#[]⟩, .string ⟨#[]⟩] 111))
  have HR := heap_alloc_new w (.cells #[.string ⟨#[]⟩, .string ⟨#[]⟩] 111)
  have HV := Lib.hid hv
  have JC := Lib.hid HC
  have JX := Lib.hid HX
  have JY := Lib.hid HY
  have JO := Lib.hid HO
  clear hv HC HX HY HO
  go_enter Tryz.func96, Tryz.ntmps96
  go_wp2_with (first
    | (go_at_call 135; refine (JC.out _ (HV.out.below HB.out)).mono ?_; rintro e w1 ⟨rfl, k, rfl⟩; have b1 := below_drewN HB.out k; have R1 := row_drewN HR k; obtain ⟨k1, k2, k3, k4⟩ := row2 R1)
    | (go_at_call 118; (with_reducible refine (JX.out _).mono ?_); rintro e w2 ⟨rfl, rfl⟩)
    | (go_at_call 118; (with_reducible refine (JY.out _).mono ?_); rintro e w3 ⟨rfl, rfl⟩)
    | (go_at_call 136; (with_reducible refine (JO.out _).mono ?_); rintro e w4 ⟨rfl, rfl⟩))
  refine bodyPost_ret (v := .tuple #[.agg #[.string ⟨#[]⟩, .string ⟨#[]⟩], .int .i64 12]) (results_cell_tmp rfl _ _ w.heap.size 111 #[.string ⟨#[]⟩, .string ⟨#[]⟩] (0, 0) _ (.int .i64 12) rfl rfl (sc_row _ _ R1) Tryz.underlying111 (by kernel_rfl) (by kernel_rfl)) rfl ⟨rfl, ?_⟩
  exact (b1.setCell (p := ⟨w.heap.size, 0, none⟩) (Nat.le_refl _) _).setCell (p := ⟨w.heap.size, 1, none⟩) (Nat.le_refl _) _
set_option maxRecDepth 100000 in
set_option maxHeartbeats 1600000 in
theorem pT0_0_g (s N D G : ByteArray) (w : World) (hv : VarR w)
    (HC : ∀ W, VarR W → Calls Tryz.prog 135 #[.string s, .string ⟨#[47]⟩] W (CutR N D true W))
    (HX : ∀ W, Calls Tryz.prog 118 #[.string N] W (IntR 0 W)) (HY : ∀ W, Calls Tryz.prog 118 #[.string D] W (IntR 0 W))
    (HO : ∀ W, Calls Tryz.prog 136 #[.string D] W (BooR true W))
    (HG : ∀ W, VarT W → Calls Tryz.prog 137 #[.string N, .string D] W (StrR G W)) (hG : (G.toList == [49]) = true) : Calls Tryz.prog 96 #[.string s] w (PrsR N D 0 w) := by
  have HB := Lib.hid ((Below.refl _ w).alloc (Nat.le_refl _) (.cells #[.string ⟨#[]⟩, .string ⟨#[]⟩] 111))
  have HR := heap_alloc_new w (.cells #[.string ⟨#[]⟩, .string ⟨#[]⟩] 111)
  have HV := Lib.hid hv
  have JC := Lib.hid HC
  have JX := Lib.hid HX
  have JY := Lib.hid HY
  have JO := Lib.hid HO
  have JG := Lib.hid HG
  clear hv HC HX HY HO HG
  go_enter Tryz.func96, Tryz.ntmps96
  go_wp2_with (first
    | (go_at_call 135; refine (JC.out _ (HV.out.below HB.out)).mono ?_; rintro e w1 ⟨rfl, k, rfl⟩; have b1 := below_drewN HB.out k; have R1 := row_drewN HR k; obtain ⟨k1, k2, k3, k4⟩ := row2 R1)
    | (go_at_call 118; (with_reducible refine (JX.out _).mono ?_); rintro e w2 ⟨rfl, rfl⟩)
    | (go_at_call 118; (with_reducible refine (JY.out _).mono ?_); rintro e w3 ⟨rfl, rfl⟩)
    | (go_at_call 136; (with_reducible refine (JO.out _).mono ?_); rintro e w4 ⟨rfl, rfl⟩)
    | (go_at_call 137; refine (JG.out _ (HV.out.below b1).t).mono ?_; rintro e w5 ⟨rfl, b⟩; have b2 := bt b1 b; have R2 := row_far R1 b; obtain ⟨j1, j2, j3, j4⟩ := row2 R2; clear b))
  refine bodyPost_ret (v := .tuple #[.agg #[.string N, .string D], .int .i64 0]) (results_cell_tmp rfl _ _ w.heap.size 111 #[.string N, .string D] (0, 0) _ (.int .i64 0) rfl rfl (sc_row _ _ R2) Tryz.underlying111 (by kernel_rfl) (by kernel_rfl)) rfl ⟨rfl, ?_⟩
  exact (b2.setCell (p := ⟨w.heap.size, 0, none⟩) (Nat.le_refl _) _).setCell (p := ⟨w.heap.size, 1, none⟩) (Nat.le_refl _) _
set_option maxRecDepth 100000 in
set_option maxHeartbeats 1600000 in
theorem pT0_0_h (s N D G : ByteArray) (w : World) (hv : VarR w)
    (HC : ∀ W, VarR W → Calls Tryz.prog 135 #[.string s, .string ⟨#[47]⟩] W (CutR N D true W))
    (HX : ∀ W, Calls Tryz.prog 118 #[.string N] W (IntR 0 W)) (HY : ∀ W, Calls Tryz.prog 118 #[.string D] W (IntR 0 W))
    (HO : ∀ W, Calls Tryz.prog 136 #[.string D] W (BooR true W))
    (HG : ∀ W, VarT W → Calls Tryz.prog 137 #[.string N, .string D] W (StrR G W)) (hG : (G.toList == [49]) = false) : Calls Tryz.prog 96 #[.string s] w (PrsR ⟨#[]⟩ ⟨#[]⟩ 12 w) := by
  have HB := Lib.hid ((Below.refl _ w).alloc (Nat.le_refl _) (.cells #[.string ⟨#[]⟩, .string ⟨#[]⟩] 111))
  have HR := heap_alloc_new w (.cells #[.string ⟨#[]⟩, .string ⟨#[]⟩] 111)
  have HV := Lib.hid hv
  have JC := Lib.hid HC
  have JX := Lib.hid HX
  have JY := Lib.hid HY
  have JO := Lib.hid HO
  have JG := Lib.hid HG
  clear hv HC HX HY HO HG
  go_enter Tryz.func96, Tryz.ntmps96
  go_wp2_with (first
    | (go_at_call 135; refine (JC.out _ (HV.out.below HB.out)).mono ?_; rintro e w1 ⟨rfl, k, rfl⟩; have b1 := below_drewN HB.out k; have R1 := row_drewN HR k; obtain ⟨k1, k2, k3, k4⟩ := row2 R1)
    | (go_at_call 118; (with_reducible refine (JX.out _).mono ?_); rintro e w2 ⟨rfl, rfl⟩)
    | (go_at_call 118; (with_reducible refine (JY.out _).mono ?_); rintro e w3 ⟨rfl, rfl⟩)
    | (go_at_call 136; (with_reducible refine (JO.out _).mono ?_); rintro e w4 ⟨rfl, rfl⟩)
    | (go_at_call 137; refine (JG.out _ (HV.out.below b1).t).mono ?_; rintro e w5 ⟨rfl, b⟩; have b2 := bt b1 b; have R2 := row_far R1 b; obtain ⟨j1, j2, j3, j4⟩ := row2 R2; clear b))
  refine bodyPost_ret (v := .tuple #[.agg #[.string ⟨#[]⟩, .string ⟨#[]⟩], .int .i64 12]) (results_cell_tmp rfl _ _ w.heap.size 111 #[.string ⟨#[]⟩, .string ⟨#[]⟩] (0, 0) _ (.int .i64 12) rfl rfl (sc_row _ _ R2) Tryz.underlying111 (by kernel_rfl) (by kernel_rfl)) rfl ⟨rfl, ?_⟩
  exact (b2.setCell (p := ⟨w.heap.size, 0, none⟩) (Nat.le_refl _) _).setCell (p := ⟨w.heap.size, 1, none⟩) (Nat.le_refl _) _
set_option maxRecDepth 100000 in
set_option maxHeartbeats 1600000 in
theorem pT0_12 (s N D : ByteArray) (w : World) (hv : VarR w)
    (HC : ∀ W, VarR W → Calls Tryz.prog 135 #[.string s, .string ⟨#[47]⟩] W (CutR N D true W))
    (HX : ∀ W, Calls Tryz.prog 118 #[.string N] W (IntR 0 W)) (HY : ∀ W, Calls Tryz.prog 118 #[.string D] W (IntR 12 W)) : Calls Tryz.prog 96 #[.string s] w (PrsR ⟨#[]⟩ ⟨#[]⟩ 12 w) := by
  have HB := Lib.hid ((Below.refl _ w).alloc (Nat.le_refl _) (.cells #[.string ⟨#[]⟩, .string ⟨#[]⟩] 111))
  have HR := heap_alloc_new w (.cells #[.string ⟨#[]⟩, .string ⟨#[]⟩] 111)
  have HV := Lib.hid hv
  have JC := Lib.hid HC
  have JX := Lib.hid HX
  have JY := Lib.hid HY
  clear hv HC HX HY
  go_enter Tryz.func96, Tryz.ntmps96
  go_wp2_with (first
    | (go_at_call 135; refine (JC.out _ (HV.out.below HB.out)).mono ?_; rintro e w1 ⟨rfl, k, rfl⟩; have b1 := below_drewN HB.out k; have R1 := row_drewN HR k; obtain ⟨k1, k2, k3, k4⟩ := row2 R1)
    | (go_at_call 118; (with_reducible refine (JX.out _).mono ?_); rintro e w2 ⟨rfl, rfl⟩)
    | (go_at_call 118; (with_reducible refine (JY.out _).mono ?_); rintro e w3 ⟨rfl, rfl⟩))
  refine bodyPost_ret (v := .tuple #[.agg #[.string ⟨#[]⟩, .string ⟨#[]⟩], .int .i64 12]) (results_cell_tmp rfl _ _ w.heap.size 111 #[.string ⟨#[]⟩, .string ⟨#[]⟩] (0, 0) _ (.int .i64 12) rfl rfl (sc_row _ _ R1) Tryz.underlying111 (by kernel_rfl) (by kernel_rfl)) rfl ⟨rfl, ?_⟩
  exact (b1.setCell (p := ⟨w.heap.size, 0, none⟩) (Nat.le_refl _) _).setCell (p := ⟨w.heap.size, 1, none⟩) (Nat.le_refl _) _
set_option maxRecDepth 100000 in
set_option maxHeartbeats 1600000 in
theorem pT0_14_n (s N D : ByteArray) (w : World) (hv : VarR w)
    (HC : ∀ W, VarR W → Calls Tryz.prog 135 #[.string s, .string ⟨#[47]⟩] W (CutR N D true W))
    (HX : ∀ W, Calls Tryz.prog 118 #[.string N] W (IntR 0 W)) (HY : ∀ W, Calls Tryz.prog 118 #[.string D] W (IntR 14 W))
    (HO : ∀ W, Calls Tryz.prog 136 #[.string D] W (BooR false W)) : Calls Tryz.prog 96 #[.string s] w (PrsR ⟨#[]⟩ ⟨#[]⟩ 12 w) := by
  have HB := Lib.hid ((Below.refl _ w).alloc (Nat.le_refl _) (.cells #[.string ⟨#[]⟩, .string ⟨#[]⟩] 111))
  have HR := heap_alloc_new w (.cells #[.string ⟨#[]⟩, .string ⟨#[]⟩] 111)
  have HV := Lib.hid hv
  have JC := Lib.hid HC
  have JX := Lib.hid HX
  have JY := Lib.hid HY
  have JO := Lib.hid HO
  clear hv HC HX HY HO
  go_enter Tryz.func96, Tryz.ntmps96
  go_wp2_with (first
    | (go_at_call 135; refine (JC.out _ (HV.out.below HB.out)).mono ?_; rintro e w1 ⟨rfl, k, rfl⟩; have b1 := below_drewN HB.out k; have R1 := row_drewN HR k; obtain ⟨k1, k2, k3, k4⟩ := row2 R1)
    | (go_at_call 118; (with_reducible refine (JX.out _).mono ?_); rintro e w2 ⟨rfl, rfl⟩)
    | (go_at_call 118; (with_reducible refine (JY.out _).mono ?_); rintro e w3 ⟨rfl, rfl⟩)
    | (go_at_call 136; (with_reducible refine (JO.out _).mono ?_); rintro e w4 ⟨rfl, rfl⟩))
  refine bodyPost_ret (v := .tuple #[.agg #[.string ⟨#[]⟩, .string ⟨#[]⟩], .int .i64 12]) (results_cell_tmp rfl _ _ w.heap.size 111 #[.string ⟨#[]⟩, .string ⟨#[]⟩] (0, 0) _ (.int .i64 12) rfl rfl (sc_row _ _ R1) Tryz.underlying111 (by kernel_rfl) (by kernel_rfl)) rfl ⟨rfl, ?_⟩
  exact (b1.setCell (p := ⟨w.heap.size, 0, none⟩) (Nat.le_refl _) _).setCell (p := ⟨w.heap.size, 1, none⟩) (Nat.le_refl _) _
set_option maxRecDepth 100000 in
set_option maxHeartbeats 1600000 in
theorem pT0_14_o (s N D : ByteArray) (w : World) (hv : VarR w)
    (HC : ∀ W, VarR W → Calls Tryz.prog 135 #[.string s, .string ⟨#[47]⟩] W (CutR N D true W))
    (HX : ∀ W, Calls Tryz.prog 118 #[.string N] W (IntR 0 W)) (HY : ∀ W, Calls Tryz.prog 118 #[.string D] W (IntR 14 W))
    (HO : ∀ W, Calls Tryz.prog 136 #[.string D] W (BooR true W)) : Calls Tryz.prog 96 #[.string s] w (PrsR ⟨#[]⟩ ⟨#[]⟩ 14 w) := by
  have HB := Lib.hid ((Below.refl _ w).alloc (Nat.le_refl _) (.cells #[.string ⟨#[]⟩, .string ⟨#[]⟩] 111))
  have HR := heap_alloc_new w (.cells #[.string ⟨#[]⟩, .string ⟨#[]⟩] 111)
  have HV := Lib.hid hv
  have JC := Lib.hid HC
  have JX := Lib.hid HX
  have JY := Lib.hid HY
  have JO := Lib.hid HO
  clear hv HC HX HY HO
  go_enter Tryz.func96, Tryz.ntmps96
  go_wp2_with (first
    | (go_at_call 135; refine (JC.out _ (HV.out.below HB.out)).mono ?_; rintro e w1 ⟨rfl, k, rfl⟩; have b1 := below_drewN HB.out k; have R1 := row_drewN HR k; obtain ⟨k1, k2, k3, k4⟩ := row2 R1)
    | (go_at_call 118; (with_reducible refine (JX.out _).mono ?_); rintro e w2 ⟨rfl, rfl⟩)
    | (go_at_call 118; (with_reducible refine (JY.out _).mono ?_); rintro e w3 ⟨rfl, rfl⟩)
    | (go_at_call 136; (with_reducible refine (JO.out _).mono ?_); rintro e w4 ⟨rfl, rfl⟩))
  refine bodyPost_ret (v := .tuple #[.agg #[.string ⟨#[]⟩, .string ⟨#[]⟩], .int .i64 14]) (results_cell_tmp rfl _ _ w.heap.size 111 #[.string ⟨#[]⟩, .string ⟨#[]⟩] (0, 0) _ (.int .i64 14) rfl rfl (sc_row _ _ R1) Tryz.underlying111 (by kernel_rfl) (by kernel_rfl)) rfl ⟨rfl, ?_⟩
  exact (b1.setCell (p := ⟨w.heap.size, 0, none⟩) (Nat.le_refl _) _).setCell (p := ⟨w.heap.size, 1, none⟩) (Nat.le_refl _) _
set_option maxRecDepth 100000 in
set_option maxHeartbeats 1600000 in
theorem pT12_0 (s N D : ByteArray) (w : World) (hv : VarR w)
    (HC : ∀ W, VarR W → Calls Tryz.prog 135 #[.string s, .string ⟨#[47]⟩] W (CutR N D true W))
    (HX : ∀ W, Calls Tryz.prog 118 #[.string N] W (IntR 12 W)) (HY : ∀ W, Calls Tryz.prog 118 #[.string D] W (IntR 0 W)) : Calls Tryz.prog 96 #[.string s] w (PrsR ⟨#[]⟩ ⟨#[]⟩ 12 w) := by
  have HB := Lib.hid ((Below.refl _ w).alloc (Nat.le_refl _) (.cells #[.string ⟨#[]⟩, .string ⟨#[]⟩] 111))
  have HR := heap_alloc_new w (.cells #[.string ⟨#[]⟩, .string ⟨#[]⟩] 111)
  have HV := Lib.hid hv
  have JC := Lib.hid HC
  have JX := Lib.hid HX
  have JY := Lib.hid HY
  clear hv HC HX HY
  go_enter Tryz.func96, Tryz.ntmps96
  go_wp2_with (first
    | (go_at_call 135; refine (JC.out _ (HV.out.below HB.out)).mono ?_; rintro e w1 ⟨rfl, k, rfl⟩; have b1 := below_drewN HB.out k; have R1 := row_drewN HR k; obtain ⟨k1, k2, k3, k4⟩ := row2 R1)
    | (go_at_call 118; (with_reducible refine (JX.out _).mono ?_); rintro e w2 ⟨rfl, rfl⟩)
    | (go_at_call 118; (with_reducible refine (JY.out _).mono ?_); rintro e w3 ⟨rfl, rfl⟩))
  refine bodyPost_ret (v := .tuple #[.agg #[.string ⟨#[]⟩, .string ⟨#[]⟩], .int .i64 12]) (results_cell_tmp rfl _ _ w.heap.size 111 #[.string ⟨#[]⟩, .string ⟨#[]⟩] (0, 0) _ (.int .i64 12) rfl rfl (sc_row _ _ R1) Tryz.underlying111 (by kernel_rfl) (by kernel_rfl)) rfl ⟨rfl, ?_⟩
  exact (b1.setCell (p := ⟨w.heap.size, 0, none⟩) (Nat.le_refl _) _).setCell (p := ⟨w.heap.size, 1, none⟩) (Nat.le_refl _) _
set_option maxRecDepth 100000 in
set_option maxHeartbeats 1600000 in
theorem pT12_12 (s N D : ByteArray) (w : World) (hv : VarR w)
    (HC : ∀ W, VarR W → Calls Tryz.prog 135 #[.string s, .string ⟨#[47]⟩] W (CutR N D true W))
    (HX : ∀ W, Calls Tryz.prog 118 #[.string N] W (IntR 12 W)) (HY : ∀ W, Calls Tryz.prog 118 #[.string D] W (IntR 12 W)) : Calls Tryz.prog 96 #[.string s] w (PrsR ⟨#[]⟩ ⟨#[]⟩ 12 w) := by
  have HB := Lib.hid ((Below.refl _ w).alloc (Nat.le_refl _) (.cells #[.string ⟨#[]⟩, .string ⟨#[]⟩] 111))
  have HR := heap_alloc_new w (.cells #[.string ⟨#[]⟩, .string ⟨#[]⟩] 111)
  have HV := Lib.hid hv
  have JC := Lib.hid HC
  have JX := Lib.hid HX
  have JY := Lib.hid HY
  clear hv HC HX HY
  go_enter Tryz.func96, Tryz.ntmps96
  go_wp2_with (first
    | (go_at_call 135; refine (JC.out _ (HV.out.below HB.out)).mono ?_; rintro e w1 ⟨rfl, k, rfl⟩; have b1 := below_drewN HB.out k; have R1 := row_drewN HR k; obtain ⟨k1, k2, k3, k4⟩ := row2 R1)
    | (go_at_call 118; (with_reducible refine (JX.out _).mono ?_); rintro e w2 ⟨rfl, rfl⟩)
    | (go_at_call 118; (with_reducible refine (JY.out _).mono ?_); rintro e w3 ⟨rfl, rfl⟩))
  refine bodyPost_ret (v := .tuple #[.agg #[.string ⟨#[]⟩, .string ⟨#[]⟩], .int .i64 12]) (results_cell_tmp rfl _ _ w.heap.size 111 #[.string ⟨#[]⟩, .string ⟨#[]⟩] (0, 0) _ (.int .i64 12) rfl rfl (sc_row _ _ R1) Tryz.underlying111 (by kernel_rfl) (by kernel_rfl)) rfl ⟨rfl, ?_⟩
  exact (b1.setCell (p := ⟨w.heap.size, 0, none⟩) (Nat.le_refl _) _).setCell (p := ⟨w.heap.size, 1, none⟩) (Nat.le_refl _) _
set_option maxRecDepth 100000 in
set_option maxHeartbeats 1600000 in
theorem pT12_14 (s N D : ByteArray) (w : World) (hv : VarR w)
    (HC : ∀ W, VarR W → Calls Tryz.prog 135 #[.string s, .string ⟨#[47]⟩] W (CutR N D true W))
    (HX : ∀ W, Calls Tryz.prog 118 #[.string N] W (IntR 12 W)) (HY : ∀ W, Calls Tryz.prog 118 #[.string D] W (IntR 14 W)) : Calls Tryz.prog 96 #[.string s] w (PrsR ⟨#[]⟩ ⟨#[]⟩ 12 w) := by
  have HB := Lib.hid ((Below.refl _ w).alloc (Nat.le_refl _) (.cells #[.string ⟨#[]⟩, .string ⟨#[]⟩] 111))
  have HR := heap_alloc_new w (.cells #[.string ⟨#[]⟩, .string ⟨#[]⟩] 111)
  have HV := Lib.hid hv
  have JC := Lib.hid HC
  have JX := Lib.hid HX
  have JY := Lib.hid HY
  clear hv HC HX HY
  go_enter Tryz.func96, Tryz.ntmps96
  go_wp2_with (first
    | (go_at_call 135; refine (JC.out _ (HV.out.below HB.out)).mono ?_; rintro e w1 ⟨rfl, k, rfl⟩; have b1 := below_drewN HB.out k; have R1 := row_drewN HR k; obtain ⟨k1, k2, k3, k4⟩ := row2 R1)
    | (go_at_call 118; (with_reducible refine (JX.out _).mono ?_); rintro e w2 ⟨rfl, rfl⟩)
    | (go_at_call 118; (with_reducible refine (JY.out _).mono ?_); rintro e w3 ⟨rfl, rfl⟩))
  refine bodyPost_ret (v := .tuple #[.agg #[.string ⟨#[]⟩, .string ⟨#[]⟩], .int .i64 12]) (results_cell_tmp rfl _ _ w.heap.size 111 #[.string ⟨#[]⟩, .string ⟨#[]⟩] (0, 0) _ (.int .i64 12) rfl rfl (sc_row _ _ R1) Tryz.underlying111 (by kernel_rfl) (by kernel_rfl)) rfl ⟨rfl, ?_⟩
  exact (b1.setCell (p := ⟨w.heap.size, 0, none⟩) (Nat.le_refl _) _).setCell (p := ⟨w.heap.size, 1, none⟩) (Nat.le_refl _) _
set_option maxRecDepth 100000 in
set_option maxHeartbeats 1600000 in
theorem pT14_0_n (s N D : ByteArray) (w : World) (hv : VarR w)
    (HC : ∀ W, VarR W → Calls Tryz.prog 135 #[.string s, .string ⟨#[47]⟩] W (CutR N D true W))
    (HX : ∀ W, Calls Tryz.prog 118 #[.string N] W (IntR 14 W)) (HY : ∀ W, Calls Tryz.prog 118 #[.string D] W (IntR 0 W))
    (HO : ∀ W, Calls Tryz.prog 136 #[.string D] W (BooR false W)) : Calls Tryz.prog 96 #[.string s] w (PrsR ⟨#[]⟩ ⟨#[]⟩ 12 w) := by
  have HB := Lib.hid ((Below.refl _ w).alloc (Nat.le_refl _) (.cells #[.string ⟨#[]⟩, .string ⟨#[]⟩] 111))
  have HR := heap_alloc_new w (.cells #[.string ⟨#[]⟩, .string ⟨#[]⟩] 111)
  have HV := Lib.hid hv
  have JC := Lib.hid HC
  have JX := Lib.hid HX
  have JY := Lib.hid HY
  have JO := Lib.hid HO
  clear hv HC HX HY HO
  go_enter Tryz.func96, Tryz.ntmps96
  go_wp2_with (first
    | (go_at_call 135; refine (JC.out _ (HV.out.below HB.out)).mono ?_; rintro e w1 ⟨rfl, k, rfl⟩; have b1 := below_drewN HB.out k; have R1 := row_drewN HR k; obtain ⟨k1, k2, k3, k4⟩ := row2 R1)
    | (go_at_call 118; (with_reducible refine (JX.out _).mono ?_); rintro e w2 ⟨rfl, rfl⟩)
    | (go_at_call 118; (with_reducible refine (JY.out _).mono ?_); rintro e w3 ⟨rfl, rfl⟩)
    | (go_at_call 136; (with_reducible refine (JO.out _).mono ?_); rintro e w4 ⟨rfl, rfl⟩))
  refine bodyPost_ret (v := .tuple #[.agg #[.string ⟨#[]⟩, .string ⟨#[]⟩], .int .i64 12]) (results_cell_tmp rfl _ _ w.heap.size 111 #[.string ⟨#[]⟩, .string ⟨#[]⟩] (0, 0) _ (.int .i64 12) rfl rfl (sc_row _ _ R1) Tryz.underlying111 (by kernel_rfl) (by kernel_rfl)) rfl ⟨rfl, ?_⟩
  exact (b1.setCell (p := ⟨w.heap.size, 0, none⟩) (Nat.le_refl _) _).setCell (p := ⟨w.heap.size, 1, none⟩) (Nat.le_refl _) _
set_option maxRecDepth 100000 in
set_option maxHeartbeats 1600000 in
theorem pT14_0_o (s N D : ByteArray) (w : World) (hv : VarR w)
    (HC : ∀ W, VarR W → Calls Tryz.prog 135 #[.string s, .string ⟨#[47]⟩] W (CutR N D true W))
    (HX : ∀ W, Calls Tryz.prog 118 #[.string N] W (IntR 14 W)) (HY : ∀ W, Calls Tryz.prog 118 #[.string D] W (IntR 0 W))
    (HO : ∀ W, Calls Tryz.prog 136 #[.string D] W (BooR true W)) : Calls Tryz.prog 96 #[.string s] w (PrsR ⟨#[]⟩ ⟨#[]⟩ 14 w) := by
  have HB := Lib.hid ((Below.refl _ w).alloc (Nat.le_refl _) (.cells #[.string ⟨#[]⟩, .string ⟨#[]⟩] 111))
  have HR := heap_alloc_new w (.cells #[.string ⟨#[]⟩, .string ⟨#[]⟩] 111)
  have HV := Lib.hid hv
  have JC := Lib.hid HC
  have JX := Lib.hid HX
  have JY := Lib.hid HY
  have JO := Lib.hid HO
  clear hv HC HX HY HO
  go_enter Tryz.func96, Tryz.ntmps96
  go_wp2_with (first
    | (go_at_call 135; refine (JC.out _ (HV.out.below HB.out)).mono ?_; rintro e w1 ⟨rfl, k, rfl⟩; have b1 := below_drewN HB.out k; have R1 := row_drewN HR k; obtain ⟨k1, k2, k3, k4⟩ := row2 R1)
    | (go_at_call 118; (with_reducible refine (JX.out _).mono ?_); rintro e w2 ⟨rfl, rfl⟩)
    | (go_at_call 118; (with_reducible refine (JY.out _).mono ?_); rintro e w3 ⟨rfl, rfl⟩)
    | (go_at_call 136; (with_reducible refine (JO.out _).mono ?_); rintro e w4 ⟨rfl, rfl⟩))
  refine bodyPost_ret (v := .tuple #[.agg #[.string ⟨#[]⟩, .string ⟨#[]⟩], .int .i64 14]) (results_cell_tmp rfl _ _ w.heap.size 111 #[.string ⟨#[]⟩, .string ⟨#[]⟩] (0, 0) _ (.int .i64 14) rfl rfl (sc_row _ _ R1) Tryz.underlying111 (by kernel_rfl) (by kernel_rfl)) rfl ⟨rfl, ?_⟩
  exact (b1.setCell (p := ⟨w.heap.size, 0, none⟩) (Nat.le_refl _) _).setCell (p := ⟨w.heap.size, 1, none⟩) (Nat.le_refl _) _
set_option maxRecDepth 100000 in
set_option maxHeartbeats 1600000 in
theorem pT14_12 (s N D : ByteArray) (w : World) (hv : VarR w)
    (HC : ∀ W, VarR W → Calls Tryz.prog 135 #[.string s, .string ⟨#[47]⟩] W (CutR N D true W))
    (HX : ∀ W, Calls Tryz.prog 118 #[.string N] W (IntR 14 W)) (HY : ∀ W, Calls Tryz.prog 118 #[.string D] W (IntR 12 W)) : Calls Tryz.prog 96 #[.string s] w (PrsR ⟨#[]⟩ ⟨#[]⟩ 12 w) := by
  have HB := Lib.hid ((Below.refl _ w).alloc (Nat.le_refl _) (.cells #[.string ⟨#[]⟩, .string ⟨#[]⟩] 111))
  have HR := heap_alloc_new w (.cells #[.string ⟨#[]⟩, .string ⟨#[]⟩] 111)
  have HV := Lib.hid hv
  have JC := Lib.hid HC
  have JX := Lib.hid HX
  have JY := Lib.hid HY
  clear hv HC HX HY
  go_enter Tryz.func96, Tryz.ntmps96
  go_wp2_with (first
    | (go_at_call 135; refine (JC.out _ (HV.out.below HB.out)).mono ?_; rintro e w1 ⟨rfl, k, rfl⟩; have b1 := below_drewN HB.out k; have R1 := row_drewN HR k; obtain ⟨k1, k2, k3, k4⟩ := row2 R1)
    | (go_at_call 118; (with_reducible refine (JX.out _).mono ?_); rintro e w2 ⟨rfl, rfl⟩)
    | (go_at_call 118; (with_reducible refine (JY.out _).mono ?_); rintro e w3 ⟨rfl, rfl⟩))
  refine bodyPost_ret (v := .tuple #[.agg #[.string ⟨#[]⟩, .string ⟨#[]⟩], .int .i64 12]) (results_cell_tmp rfl _ _ w.heap.size 111 #[.string ⟨#[]⟩, .string ⟨#[]⟩] (0, 0) _ (.int .i64 12) rfl rfl (sc_row _ _ R1) Tryz.underlying111 (by kernel_rfl) (by kernel_rfl)) rfl ⟨rfl, ?_⟩
  exact (b1.setCell (p := ⟨w.heap.size, 0, none⟩) (Nat.le_refl _) _).setCell (p := ⟨w.heap.size, 1, none⟩) (Nat.le_refl _) _
set_option maxRecDepth 100000 in
set_option maxHeartbeats 1600000 in
theorem pT14_14_n (s N D : ByteArray) (w : World) (hv : VarR w)
    (HC : ∀ W, VarR W → Calls Tryz.prog 135 #[.string s, .string ⟨#[47]⟩] W (CutR N D true W))
    (HX : ∀ W, Calls Tryz.prog 118 #[.string N] W (IntR 14 W)) (HY : ∀ W, Calls Tryz.prog 118 #[.string D] W (IntR 14 W))
    (HO : ∀ W, Calls Tryz.prog 136 #[.string D] W (BooR false W)) : Calls Tryz.prog 96 #[.string s] w (PrsR ⟨#[]⟩ ⟨#[]⟩ 12 w) := by
  have HB := Lib.hid ((Below.refl _ w).alloc (Nat.le_refl _) (.cells #[.string ⟨#[]⟩, .string ⟨#[]⟩] 111))
  have HR := heap_alloc_new w (.cells #[.string ⟨#[]⟩, .string ⟨#[]⟩] 111)
  have HV := Lib.hid hv
  have JC := Lib.hid HC
  have JX := Lib.hid HX
  have JY := Lib.hid HY
  have JO := Lib.hid HO
  clear hv HC HX HY HO
  go_enter Tryz.func96, Tryz.ntmps96
  go_wp2_with (first
    | (go_at_call 135; refine (JC.out _ (HV.out.below HB.out)).mono ?_; rintro e w1 ⟨rfl, k, rfl⟩; have b1 := below_drewN HB.out k; have R1 := row_drewN HR k; obtain ⟨k1, k2, k3, k4⟩ := row2 R1)
    | (go_at_call 118; (with_reducible refine (JX.out _).mono ?_); rintro e w2 ⟨rfl, rfl⟩)
    | (go_at_call 118; (with_reducible refine (JY.out _).mono ?_); rintro e w3 ⟨rfl, rfl⟩)
    | (go_at_call 136; (with_reducible refine (JO.out _).mono ?_); rintro e w4 ⟨rfl, rfl⟩))
  refine bodyPost_ret (v := .tuple #[.agg #[.string ⟨#[]⟩, .string ⟨#[]⟩], .int .i64 12]) (results_cell_tmp rfl _ _ w.heap.size 111 #[.string ⟨#[]⟩, .string ⟨#[]⟩] (0, 0) _ (.int .i64 12) rfl rfl (sc_row _ _ R1) Tryz.underlying111 (by kernel_rfl) (by kernel_rfl)) rfl ⟨rfl, ?_⟩
  exact (b1.setCell (p := ⟨w.heap.size, 0, none⟩) (Nat.le_refl _) _).setCell (p := ⟨w.heap.size, 1, none⟩) (Nat.le_refl _) _
set_option maxRecDepth 100000 in
set_option maxHeartbeats 1600000 in
theorem pT14_14_o (s N D : ByteArray) (w : World) (hv : VarR w)
    (HC : ∀ W, VarR W → Calls Tryz.prog 135 #[.string s, .string ⟨#[47]⟩] W (CutR N D true W))
    (HX : ∀ W, Calls Tryz.prog 118 #[.string N] W (IntR 14 W)) (HY : ∀ W, Calls Tryz.prog 118 #[.string D] W (IntR 14 W))
    (HO : ∀ W, Calls Tryz.prog 136 #[.string D] W (BooR true W)) : Calls Tryz.prog 96 #[.string s] w (PrsR ⟨#[]⟩ ⟨#[]⟩ 14 w) := by
  have HB := Lib.hid ((Below.refl _ w).alloc (Nat.le_refl _) (.cells #[.string ⟨#[]⟩, .string ⟨#[]⟩] 111))
  have HR := heap_alloc_new w (.cells #[.string ⟨#[]⟩, .string ⟨#[]⟩] 111)
  have HV := Lib.hid hv
  have JC := Lib.hid HC
  have JX := Lib.hid HX
  have JY := Lib.hid HY
  have JO := Lib.hid HO
  clear hv HC HX HY HO
  go_enter Tryz.func96, Tryz.ntmps96
  go_wp2_with (first
    | (go_at_call 135; refine (JC.out _ (HV.out.below HB.out)).mono ?_; rintro e w1 ⟨rfl, k, rfl⟩; have b1 := below_drewN HB.out k; have R1 := row_drewN HR k; obtain ⟨k1, k2, k3, k4⟩ := row2 R1)
    | (go_at_call 118; (with_reducible refine (JX.out _).mono ?_); rintro e w2 ⟨rfl, rfl⟩)
    | (go_at_call 118; (with_reducible refine (JY.out _).mono ?_); rintro e w3 ⟨rfl, rfl⟩)
    | (go_at_call 136; (with_reducible refine (JO.out _).mono ?_); rintro e w4 ⟨rfl, rfl⟩))
  refine bodyPost_ret (v := .tuple #[.agg #[.string ⟨#[]⟩, .string ⟨#[]⟩], .int .i64 14]) (results_cell_tmp rfl _ _ w.heap.size 111 #[.string ⟨#[]⟩, .string ⟨#[]⟩] (0, 0) _ (.int .i64 14) rfl rfl (sc_row _ _ R1) Tryz.underlying111 (by kernel_rfl) (by kernel_rfl)) rfl ⟨rfl, ?_⟩
  exact (b1.setCell (p := ⟨w.heap.size, 0, none⟩) (Nat.le_refl _) _).setCell (p := ⟨w.heap.size, 1, none⟩) (Nat.le_refl _) _
end Go.Proofs.YtbfimfjhdbpenaaGreatDoor
/- The walks of layer 2: parse as a whole; Parts. -/
namespace Go.Proofs.YtbfimfjhdbpenaaGreatDoor
open Go Go.RowKit
theorem chkR_eq {l : List UInt8} {x y : Int} {h o : Bool} {g : Nat} (hx : chk (nB l) = x) (hy : chk (dB l) = y) (hh : hB l = h) (ho : okD (dB l) = o) (hg : Nat.gcd (num (nB l)).natAbs (num (dB l)).natAbs = g) :
    chkR l = if x = 12 ∨ y = 12 ∨ (h = true ∧ o = false) then 12 else if ¬ x = 0 ∨ ¬ y = 0 then 14 else if h = true ∧ ¬ g = 1 then 12 else 0 := by
  subst hx; subst hy; subst hh; subst ho; subst hg; rfl
theorem parS_err {l : List UInt8} {c : Int} (h : chkR l = c) (hc : ¬ c = 0) : (⟨(parS l).1.toArray⟩ : ByteArray) = ⟨#[]⟩ ∧ (⟨(parS l).2.toArray⟩ : ByteArray) = ⟨#[]⟩ := by
  unfold parS; rw [if_neg (by rw [h]; exact hc)]; exact ⟨rfl, rfl⟩
theorem parS_ok {l : List UInt8} (h : chkR l = 0) : (⟨(parS l).1.toArray⟩ : ByteArray) = ⟨(nB l).toArray⟩ ∧ (⟨(parS l).2.toArray⟩ : ByteArray) = ⟨(dB l).toArray⟩ := by
  unfold parS; rw [if_pos h]; exact ⟨rfl, rfl⟩
theorem gcd_text {l m : List UInt8} (hl : chk l = 0) (hm : chk m = 0) : (gcS l m).1 = Lib.itoa ((Nat.gcd (num l).natAbs (num m).natAbs : Nat) : Int) := by
  rw [gcS_ok (by unfold bothE; rw [if_pos hl]; exact hm)]
theorem itoa_is_one (g : Nat) : ((⟨(Lib.itoa (g : Int)).toArray⟩ : ByteArray).toList == [49]) = decide (g = 1) := by
  rw [Lib.toList_data, Bool.eq_iff_iff, beq_iff_eq, decide_eq_true_iff]
  constructor
  · intro h
    have h2 : Lib.itoa (g : Int) = Lib.itoa 1 := h.trans (by decide +kernel)
    have := itoa_inj h2
    omega
  · rintro rfl; show Lib.itoa 1 = [49]; decide +kernel
set_option maxHeartbeats 800000 in
theorem parse_rat (s : ByteArray) (hs : s.size ≤ 1048576) (w : World) (hv : VarR w) :
    Calls Tryz.prog 96 #[.string s] w (PrsR ⟨(parS s.data.toList).1.toArray⟩ ⟨(parS s.data.toList).2.toArray⟩ (chkR s.data.toList) w) := by
  obtain ⟨c1, c2, c3, c4⟩ := cut_parts s.data.toList
  have hl1 := nB_len s.data.toList
  have hl2 := dB_len s.data.toList
  rw [← Lib.size_eq] at hl1 hl2
  have HC : ∀ W, VarR W → Calls Tryz.prog 135 #[.string s, .string ⟨#[47]⟩] W (CutR ⟨(nB s.data.toList).toArray⟩ ⟨(Lib.cut s.data.toList [47]).2.1.toArray⟩ (hB s.data.toList) W) := fun W hW => by
    obtain ⟨m, hm⟩ := hW.ml
    have := Tryz.strings_Cut s ⟨#[47]⟩ m W (by omega) hm
    rw [show (⟨#[47]⟩ : ByteArray).data.toList = [47] from rfl, c1, c2] at this
    exact this
  have HX : ∀ W, Calls Tryz.prog 118 #[.string ⟨(nB s.data.toList).toArray⟩] W (IntR (chk (nB s.data.toList)) W) := fun W => check_any ⟨(nB s.data.toList).toArray⟩ W (by show (nB s.data.toList).length ≤ maxLen; unfold maxLen; omega)
  have HY : ∀ W, Calls Tryz.prog 118 #[.string ⟨(dB s.data.toList).toArray⟩] W (IntR (chk (dB s.data.toList)) W) := fun W => check_any ⟨(dB s.data.toList).toArray⟩ W (by show (dB s.data.toList).length ≤ maxLen; unfold maxLen; omega)
  have HO : ∀ W, Calls Tryz.prog 136 #[.string ⟨(dB s.data.toList).toArray⟩] W (BooR (okD (dB s.data.toList)) W) := fun W => aboveOne_any ⟨(dB s.data.toList).toArray⟩ _ rfl W
  have HG : chk (nB s.data.toList) = 0 → chk (dB s.data.toList) = 0 → ∀ W, VarT W → Calls Tryz.prog 137 #[.string ⟨(nB s.data.toList).toArray⟩, .string ⟨(dB s.data.toList).toArray⟩] W
      (StrR ⟨(Lib.itoa ((Nat.gcd (num (nB s.data.toList)).natAbs (num (dB s.data.toList)).natAbs : Nat) : Int)).toArray⟩ W) := fun hx hy W hW => by
    have := divisor_any ⟨(nB s.data.toList).toArray⟩ ⟨(dB s.data.toList).toArray⟩ (by show (nB s.data.toList).length ≤ maxLen; unfold maxLen; omega) (by show (dB s.data.toList).length ≤ maxLen; unfold maxLen; omega) _ rfl W hW
    rw [show (⟨(nB s.data.toList).toArray⟩ : ByteArray).data.toList = nB s.data.toList from rfl, show (⟨(dB s.data.toList).toArray⟩ : ByteArray).data.toList = dB s.data.toList from rfl, gcd_text hx hy] at this
    exact this
  have hgt := itoa_is_one (Nat.gcd (num (nB s.data.toList)).natAbs (num (dB s.data.toList)).natAbs)
  have HP := fun c (h : chkR s.data.toList = c) (hc : ¬ c = 0) => parS_err h hc
  have HQ := parS_ok (l := s.data.toList)
  have HE := @chkR_eq s.data.toList
  cases hh : hB s.data.toList
  · have hd := dB_plain hh
    rw [hh] at HC
    have hdl : (⟨(dB s.data.toList).toArray⟩ : ByteArray) = ⟨#[49]⟩ := by rw [hd]
    have hy : chk (dB s.data.toList) = 0 := by rw [hd]; exact chk_one
    rw [hdl, hy] at HY
    rcases chk_cases (nB s.data.toList) with hx | hx | hx
    · rw [hx] at HX
      have e := HE hx hy hh rfl rfl
      simp at e
      obtain ⟨p1, p2⟩ := HQ e
      rw [e, p1, p2, hdl]
      exact pF0 s _ _ w hv HC HX HY
    · rw [hx] at HX
      have e := HE hx hy hh rfl rfl
      simp at e
      obtain ⟨p1, p2⟩ := HP _ e (by decide)
      rw [e, p1, p2]
      exact pF12 s _ _ w hv HC HX HY
    · rw [hx] at HX
      have e := HE hx hy hh rfl rfl
      simp at e
      obtain ⟨p1, p2⟩ := HP _ e (by decide)
      rw [e, p1, p2]
      exact pF14 s _ _ w hv HC HX HY
  · rw [hh, c3 hh] at HC
    rcases chk_cases (nB s.data.toList) with hx | hx | hx <;> rcases chk_cases (dB s.data.toList) with hy | hy | hy <;> cases ho : okD (dB s.data.toList)
    all_goals
      rw [hx] at HX
      rw [hy] at HY
      rw [ho] at HO
    · have e := HE hx hy hh ho rfl
      simp at e
      obtain ⟨p1, p2⟩ := HP _ e (by decide)
      rw [e, p1, p2]
      exact pT0_0_n s _ _ w hv HC HX HY HO
    · by_cases hg : Nat.gcd (num (nB s.data.toList)).natAbs (num (dB s.data.toList)).natAbs = 1
      · have e := HE hx hy hh ho hg
        simp at e
        obtain ⟨p1, p2⟩ := HQ e
        rw [e, p1, p2]
        exact pT0_0_g s _ _ _ w hv HC HX HY HO (HG hx hy) (by rw [hgt]; exact decide_eq_true hg)
      · have e := HE hx hy hh ho rfl
        simp [hg] at e
        obtain ⟨p1, p2⟩ := HP _ e (by decide)
        rw [e, p1, p2]
        exact pT0_0_h s _ _ _ w hv HC HX HY HO (HG hx hy) (by rw [hgt]; exact decide_eq_false hg)
    all_goals
      have e := HE hx hy hh ho rfl
      simp at e
      obtain ⟨p1, p2⟩ := HP _ e (by decide)
      rw [e, p1, p2]
      first
        | exact pT0_12 s _ _ w hv HC HX HY
        | exact pT0_14_n s _ _ w hv HC HX HY HO
        | exact pT0_14_o s _ _ w hv HC HX HY HO
        | exact pT12_0 s _ _ w hv HC HX HY
        | exact pT12_12 s _ _ w hv HC HX HY
        | exact pT12_14 s _ _ w hv HC HX HY
        | exact pT14_0_n s _ _ w hv HC HX HY HO
        | exact pT14_0_o s _ _ w hv HC HX HY HO
        | exact pT14_12 s _ _ w hv HC HX HY
        | exact pT14_14_n s _ _ w hv HC HX HY HO
        | exact pT14_14_o s _ _ w hv HC HX HY HO
end Go.Proofs.YtbfimfjhdbpenaaGreatDoor
/- The walks of layer 2: product, inverse, quotient. -/
namespace Go.Proofs.YtbfimfjhdbpenaaGreatDoor
open Go Go.RowKit
end Go.Proofs.YtbfimfjhdbpenaaGreatDoor
/- The walks of layer 2: sums and differences. -/
namespace Go.Proofs.YtbfimfjhdbpenaaGreatDoor
open Go Go.RowKit
end Go.Proofs.YtbfimfjhdbpenaaGreatDoor
/- Joined: RatW, RatX, RatY, RatZ. -/
/- The walks of layer 2: inverse, quotient. -/
namespace Go.Proofs.YtbfimfjhdbpenaaGreatDoor
open Go Go.RowKit
end Go.Proofs.YtbfimfjhdbpenaaGreatDoor
/- The walks of layer 2: parseTwo, calculate, Add, Sub, Mul, Div. -/
namespace Go.Proofs.YtbfimfjhdbpenaaGreatDoor
open Go Go.RowKit
section
variable (s t : ByteArray) (w : World) (hv : VarR w)
include hv
end
end Go.Proofs.YtbfimfjhdbpenaaGreatDoor
/- The walks of layer 2: calculate. -/
namespace Go.Proofs.YtbfimfjhdbpenaaGreatDoor
open Go Go.RowKit
end Go.Proofs.YtbfimfjhdbpenaaGreatDoor
/- The walks of layer 2: the operations on rationals: sums, differences, products, quotients. -/
namespace Go.Proofs.YtbfimfjhdbpenaaGreatDoor
open Go Go.RowKit
end Go.Proofs.YtbfimfjhdbpenaaGreatDoor
/- Joined: RatG, RatH, RatI, RatJ, RatK. -/
/- The walks of layer 2: Parts; of its reference: Slash, written. -/
namespace Go.Proofs.YtbfimfjhdbpenaaGreatDoor
open Go Go.RowKit
set_option maxHeartbeats 400000 in
theorem slash_any (s : ByteArray) (hs : s.size ≤ 1048576) (w : World) :
    Calls Tryz.prog 106 #[.string s] w fun e w' => e = .returned (.int .i64 (slS s.data.toList)) ∧ w = w' := by
  go_enter Tryz.func106, Tryz.ntmps106
  go_wp2
  go_loop [3] (fun i => ∃ k : Nat, k ≤ s.size ∧ i = .int .i64 k ∧ Hid (∀ c ∈ s.data.toList.take k, c ≠ 47)) (fun i => s.size - (intOf i).toNat)
  case atStart => exact ⟨0, Nat.zero_le _, rfl, by intro c hc; simp at hc⟩
  case round =>
    obtain ⟨k, hk, rfl, hinv⟩ := hrel
    by_cases hlt : k < s.size
    · have hlt' : k < s.data.toList.length := by rw [← Lib.size_eq]; exact hlt
      have hg : s.data.toList[k]? = some s[k] := by rw [List.getElem?_eq_getElem hlt']; rfl
      by_cases h47 : s[k] = 47
      · have HS : Hid (slS s.data.toList = (k : Int)) := by
          show _ = _
          unfold slS
          rw [spl_at _ k hinv.out (by rw [hg, h47])]
          simp
          omega
        have hc : ((s[k].toNat : Int) == 47) = true := by rw [h47]; rfl
        clear hinv hg h47
        go_wp2
        go_ret
        exact ⟨ret_int HS.out.symm, rfl⟩
      · have HI : Hid (∀ c ∈ s.data.toList.take (k + 1), c ≠ 47) := by
          intro c hc
          rw [List.take_add_one, hg] at hc
          rcases List.mem_append.1 hc with h | h
          · exact hinv.out c h
          · have : c = s[k] := by simpa using h
            rw [this]; exact h47
        have hc : ((s[k].toNat : Int) == 47) = false := beq_of 47 s[k] false (by rw [beq_eq_false_iff_ne]; exact h47) (by omega)
        clear hinv hg h47
        go_wp2
        go_round
        case rel => exact ⟨k + 1, by omega, by go_num, HI⟩
        case measure => simp [intOf]; omega
    · obtain rfl : k = s.size := by omega
      have HS : Hid (slS s.data.toList = -1) := by
        have h := hinv.out
        rw [List.take_of_length_le (by rw [← Lib.size_eq]; exact Nat.le_refl _)] at h
        show _ = _
        unfold slS
        rw [spl_none _ h]
      clear hinv
      go_wp2
      go_ret
      exact ⟨ret_int HS.out.symm, rfl⟩
theorem ext_take (s : ByteArray) (n : Nat) (a : List UInt8) (h : s.data.toList.take n = a) : s.extract 0 n = ⟨a.toArray⟩ := by
  subst h
  apply ByteArray.ext
  apply Array.ext'
  simp
theorem ext_drop (s : ByteArray) (n : Nat) (a : List UInt8) (h : s.data.toList.drop n = a) : s.extract n s.size = ⟨a.toArray⟩ := by
  subst h
  apply ByteArray.ext
  apply Array.ext'
  rw [Lib.extract_to_end]
theorem ret_ba2 {a b c d : ByteArray} (h : a = b) (h2 : c = d) : Ending.returned (.tuple #[.string a, .string c]) = .returned (.tuple #[.string b, .string d]) := by rw [h, h2]
set_option maxRecDepth 100000 in
set_option maxHeartbeats 800000 in
theorem written_any (s : ByteArray) (hs : s.size ≤ 1048576) (w : World) :
    Calls Tryz.prog 104 #[.string s] w fun e w' => e = .returned (.tuple #[.string ⟨(nB s.data.toList).toArray⟩, .string ⟨(dB s.data.toList).toArray⟩]) ∧ ∃ k, w' = w.drewN k := by
  have HS := slash_any s hs w
  cases h : spl s.data.toList with
  | none =>
    rw [show slS s.data.toList = -1 by unfold slS; rw [h]] at HS
    have HS := Lib.hid HS
    have e1 : nB s.data.toList = s.data.toList := by unfold nB; rw [h]
    have e2 : dB s.data.toList = [49] := by unfold dB; rw [h]
    rw [e1, e2]
    clear e1 e2 h
    go_enter Tryz.func104, Tryz.ntmps104
    go_wp2_with (go_at_call 106; refine HS.out.mono ?_; rintro e w1 ⟨rfl, rfl⟩)
    go_ret2
    exact ⟨rfl, 0, rfl⟩
  | some p =>
    obtain ⟨a, b⟩ := p
    obtain ⟨l1, l2, l3⟩ := spl_len h
    rw [show slS s.data.toList = (a.length : Int) by unfold slS; rw [h]] at HS
    have HS := Lib.hid HS
    have e1 : nB s.data.toList = a := by unfold nB; rw [h]
    have e2 : dB s.data.toList = b := by unfold dB; rw [h]
    rw [e1, e2]
    rw [← Lib.size_eq] at l1
    obtain ⟨n, hn⟩ : ∃ n, a.length = n := ⟨_, rfl⟩
    rw [hn] at l1 l2 l3 HS
    have L2 := Lib.hid l2
    have L3 := Lib.hid l3
    have g1 : (0 : Int) ≤ (n : Int) := by omega
    have g2 : (n : Int) ≤ (s.size : Int) := by omega
    have g3 : (n : Int) + 1 ≤ (s.size : Int) := by omega
    have g4 : (0 : Int) ≤ (n : Int) + 1 := by omega
    have w1 : IntKind.i64.wrap ((n : Int) + 1) = (n : Int) + 1 := by simp [IntKind.wrap, IntKind.bits, IntKind.signed]; omega
    have w2 : ((n : Int) + 1).toNat = n + 1 := by omega
    clear e1 e2 h l1 l2 l3 hn
    go_enter Tryz.func104, Tryz.ntmps104
    go_wp2_with (go_at_call 106; refine HS.out.mono ?_; rintro e w1 ⟨rfl, rfl⟩)
    go_quiet (fail)
    go_wp2
    go_ret2
    exact ⟨ret_ba2 (ext_take s n a L2.out) (ext_drop s (n + 1) b L3.out), _, rfl⟩
end Go.Proofs.YtbfimfjhdbpenaaGreatDoor
/- The walks of the reference of layer 2: Check. -/
namespace Go.Proofs.YtbfimfjhdbpenaaGreatDoor
open Go Go.RowKit
theorem chk_len {l : List UInt8} (h : ¬ chk l = 12) : chk l = if 1000 < (bod l).length then 14 else 0 := by
  unfold chk at h ⊢
  split
  · next e => rw [e]; rfl
  · next e =>
    rw [if_neg e] at h
    split
    · rfl
    · next g => rw [if_neg g] at h; exact absurd rfl h
def WriR (n d : ByteArray) (w : World) (e : Ending) (w' : World) : Prop := e = .returned (.tuple #[.string n, .string d]) ∧ ∃ k, w' = w.drewN k
def DigR (n : Nat) (g : Bool) (w : World) (e : Ending) (w' : World) : Prop := ∃ A c, e = .returned (.tuple #[.slice A n c, .bool g, .bool true]) ∧ Below w.heap.size w w'
def DigN (w : World) (e : Ending) (w' : World) : Prop := e = .returned (.tuple #[.slice none 0 0, .bool false, .bool false]) ∧ Below w.heap.size w w'
def GcdR (g : ByteArray) (w : World) (e : Ending) (w' : World) : Prop := e = .returned (.tuple #[.string g, .int .i64 0]) ∧ Below w.heap.size w w'
def IntB (c : Int) (w : World) (e : Ending) (w' : World) : Prop := e = .returned (.int .i64 c) ∧ Below w.heap.size w w'
set_option maxRecDepth 100000 in
set_option maxHeartbeats 1600000 in
theorem cT0_0_n (s N D : ByteArray) (sl : Int) (nx ny : Nat) (gx : Bool) (w : World)
    (HW : ∀ W, Calls Tryz.prog 104 #[.string s] W (WriR N D W))
    (HS : ∀ W, Calls Tryz.prog 106 #[.string s] W (IntR sl W)) (_hsl : 0 ≤ sl)
    (HX : ∀ W, Calls Tryz.prog 105 #[.string N] W (DigR nx gx W))
    (HY : ∀ W, Calls Tryz.prog 105 #[.string D] W (DigR ny true W)) (hx : nx ≤ 1000) (hy : ny ≤ 1000) : Calls Tryz.prog 65 #[.string s] w (IntB 12 w) := by
  have JW := Lib.hid HW
  have JS := Lib.hid HS
  have JX := Lib.hid HX
  have JY := Lib.hid HY
  clear HW HS HX HY
  have hx' : ¬ 1000 < nx := by omega
  have hy' : ¬ 1000 < ny := by omega
  go_enter Tryz.func65, Tryz.ntmps65
  go_wp2_with (first
    | (go_at_call 104; refine (JW.out _).mono ?_; rintro e w1 ⟨rfl, k, rfl⟩; have b1 := below_drewN (Below.refl w.heap.size w) k)
    | (go_at_call 105; (with_reducible refine (JX.out _).mono ?_); rintro e w2 ⟨AX, cx, rfl, b⟩; have b2 := bt b1 b; clear b)
    | (go_at_call 105; (with_reducible refine (JY.out _).mono ?_); rintro e w3 ⟨AY, cy, rfl, b⟩; have b3 := bt b2 b; clear b)
    | (go_at_call 106; refine (JS.out _).mono ?_; rintro e w4 ⟨rfl, rfl⟩))
  go_ret
  exact ⟨rfl, b3⟩
set_option maxRecDepth 100000 in
set_option maxHeartbeats 1600000 in
theorem cT0_0_z (s N D : ByteArray) (sl : Int) (nx ny : Nat) (gx : Bool) (w : World)
    (HW : ∀ W, Calls Tryz.prog 104 #[.string s] W (WriR N D W))
    (HS : ∀ W, Calls Tryz.prog 106 #[.string s] W (IntR sl W)) (_hsl : 0 ≤ sl)
    (HX : ∀ W, Calls Tryz.prog 105 #[.string N] W (DigR nx gx W))
    (HY : ∀ W, Calls Tryz.prog 105 #[.string D] W (DigR ny false W)) (hx : nx ≤ 1000) (hy : ny ≤ 1000) (hz : (D.toList == [48]) = true) : Calls Tryz.prog 65 #[.string s] w (IntB 12 w) := by
  have JW := Lib.hid HW
  have JS := Lib.hid HS
  have JX := Lib.hid HX
  have JY := Lib.hid HY
  clear HW HS HX HY
  have hx' : ¬ 1000 < nx := by omega
  have hy' : ¬ 1000 < ny := by omega
  go_enter Tryz.func65, Tryz.ntmps65
  go_wp2_with (first
    | (go_at_call 104; refine (JW.out _).mono ?_; rintro e w1 ⟨rfl, k, rfl⟩; have b1 := below_drewN (Below.refl w.heap.size w) k)
    | (go_at_call 105; (with_reducible refine (JX.out _).mono ?_); rintro e w2 ⟨AX, cx, rfl, b⟩; have b2 := bt b1 b; clear b)
    | (go_at_call 105; (with_reducible refine (JY.out _).mono ?_); rintro e w3 ⟨AY, cy, rfl, b⟩; have b3 := bt b2 b; clear b)
    | (go_at_call 106; refine (JS.out _).mono ?_; rintro e w4 ⟨rfl, rfl⟩))
  go_ret
  exact ⟨rfl, b3⟩
set_option maxRecDepth 100000 in
set_option maxHeartbeats 1600000 in
theorem cT0_0_o (s N D : ByteArray) (sl : Int) (nx ny : Nat) (gx : Bool) (w : World)
    (HW : ∀ W, Calls Tryz.prog 104 #[.string s] W (WriR N D W))
    (HS : ∀ W, Calls Tryz.prog 106 #[.string s] W (IntR sl W)) (hsl : 0 ≤ sl)
    (HX : ∀ W, Calls Tryz.prog 105 #[.string N] W (DigR nx gx W))
    (HY : ∀ W, Calls Tryz.prog 105 #[.string D] W (DigR ny false W)) (hx : nx ≤ 1000) (hy : ny ≤ 1000) (hz : (D.toList == [48]) = false) (ho : (D.toList == [49]) = true) : Calls Tryz.prog 65 #[.string s] w (IntB 12 w) := by
  have JW := Lib.hid HW
  have JS := Lib.hid HS
  have JX := Lib.hid HX
  have JY := Lib.hid HY
  clear HW HS HX HY
  have hx' : ¬ 1000 < nx := by omega
  have hy' : ¬ 1000 < ny := by omega
  go_enter Tryz.func65, Tryz.ntmps65
  go_wp2_with (first
    | (go_at_call 104; refine (JW.out _).mono ?_; rintro e w1 ⟨rfl, k, rfl⟩; have b1 := below_drewN (Below.refl w.heap.size w) k)
    | (go_at_call 105; (with_reducible refine (JX.out _).mono ?_); rintro e w2 ⟨AX, cx, rfl, b⟩; have b2 := bt b1 b; clear b)
    | (go_at_call 105; (with_reducible refine (JY.out _).mono ?_); rintro e w3 ⟨AY, cy, rfl, b⟩; have b3 := bt b2 b; clear b)
    | (go_at_call 106; refine (JS.out _).mono ?_; rintro e w4 ⟨rfl, rfl⟩))
  go_ret
  exact ⟨rfl, b3⟩
set_option maxRecDepth 100000 in
set_option maxHeartbeats 1600000 in
theorem cT0_0_g (s N D G : ByteArray) (sl : Int) (nx ny : Nat) (gx : Bool) (w : World)
    (HW : ∀ W, Calls Tryz.prog 104 #[.string s] W (WriR N D W))
    (HS : ∀ W, Calls Tryz.prog 106 #[.string s] W (IntR sl W)) (hsl : 0 ≤ sl)
    (HX : ∀ W, Calls Tryz.prog 105 #[.string N] W (DigR nx gx W))
    (HY : ∀ W, Calls Tryz.prog 105 #[.string D] W (DigR ny false W)) (hx : nx ≤ 1000) (hy : ny ≤ 1000) (hz : (D.toList == [48]) = false) (ho : (D.toList == [49]) = false)
    (HG : ∀ W, Calls Tryz.prog 107 #[.string N, .string D] W (GcdR G W)) (hG : (G.toList == [49]) = true) : Calls Tryz.prog 65 #[.string s] w (IntB 0 w) := by
  have JW := Lib.hid HW
  have JS := Lib.hid HS
  have JX := Lib.hid HX
  have JY := Lib.hid HY
  have JG := Lib.hid HG
  clear HW HS HX HY HG
  have hx' : ¬ 1000 < nx := by omega
  have hy' : ¬ 1000 < ny := by omega
  go_enter Tryz.func65, Tryz.ntmps65
  go_wp2_with (first
    | (go_at_call 104; refine (JW.out _).mono ?_; rintro e w1 ⟨rfl, k, rfl⟩; have b1 := below_drewN (Below.refl w.heap.size w) k)
    | (go_at_call 105; (with_reducible refine (JX.out _).mono ?_); rintro e w2 ⟨AX, cx, rfl, b⟩; have b2 := bt b1 b; clear b)
    | (go_at_call 105; (with_reducible refine (JY.out _).mono ?_); rintro e w3 ⟨AY, cy, rfl, b⟩; have b3 := bt b2 b; clear b)
    | (go_at_call 106; refine (JS.out _).mono ?_; rintro e w4 ⟨rfl, rfl⟩)
    | (go_at_call 107; refine (JG.out _).mono ?_; rintro e w5 ⟨rfl, b⟩; have b4 := bt b3 b; clear b))
  go_ret
  exact ⟨rfl, b4⟩
set_option maxRecDepth 100000 in
set_option maxHeartbeats 1600000 in
theorem cT0_0_h (s N D G : ByteArray) (sl : Int) (nx ny : Nat) (gx : Bool) (w : World)
    (HW : ∀ W, Calls Tryz.prog 104 #[.string s] W (WriR N D W))
    (HS : ∀ W, Calls Tryz.prog 106 #[.string s] W (IntR sl W)) (hsl : 0 ≤ sl)
    (HX : ∀ W, Calls Tryz.prog 105 #[.string N] W (DigR nx gx W))
    (HY : ∀ W, Calls Tryz.prog 105 #[.string D] W (DigR ny false W)) (hx : nx ≤ 1000) (hy : ny ≤ 1000) (hz : (D.toList == [48]) = false) (ho : (D.toList == [49]) = false)
    (HG : ∀ W, Calls Tryz.prog 107 #[.string N, .string D] W (GcdR G W)) (hG : (G.toList == [49]) = false) : Calls Tryz.prog 65 #[.string s] w (IntB 12 w) := by
  have JW := Lib.hid HW
  have JS := Lib.hid HS
  have JX := Lib.hid HX
  have JY := Lib.hid HY
  have JG := Lib.hid HG
  clear HW HS HX HY HG
  have hx' : ¬ 1000 < nx := by omega
  have hy' : ¬ 1000 < ny := by omega
  go_enter Tryz.func65, Tryz.ntmps65
  go_wp2_with (first
    | (go_at_call 104; refine (JW.out _).mono ?_; rintro e w1 ⟨rfl, k, rfl⟩; have b1 := below_drewN (Below.refl w.heap.size w) k)
    | (go_at_call 105; (with_reducible refine (JX.out _).mono ?_); rintro e w2 ⟨AX, cx, rfl, b⟩; have b2 := bt b1 b; clear b)
    | (go_at_call 105; (with_reducible refine (JY.out _).mono ?_); rintro e w3 ⟨AY, cy, rfl, b⟩; have b3 := bt b2 b; clear b)
    | (go_at_call 106; refine (JS.out _).mono ?_; rintro e w4 ⟨rfl, rfl⟩)
    | (go_at_call 107; refine (JG.out _).mono ?_; rintro e w5 ⟨rfl, b⟩; have b4 := bt b3 b; clear b))
  go_ret
  exact ⟨rfl, b4⟩
set_option maxRecDepth 100000 in
set_option maxHeartbeats 1600000 in
theorem cT0_12 (s N D : ByteArray) (sl : Int) (nx : Nat) (gx : Bool) (w : World)
    (HW : ∀ W, Calls Tryz.prog 104 #[.string s] W (WriR N D W))
    (HS : ∀ W, Calls Tryz.prog 106 #[.string s] W (IntR sl W)) (_hsl : 0 ≤ sl)
    (HX : ∀ W, Calls Tryz.prog 105 #[.string N] W (DigR nx gx W))
    (HY : ∀ W, Calls Tryz.prog 105 #[.string D] W (DigN W)) (hx : nx ≤ 1000) : Calls Tryz.prog 65 #[.string s] w (IntB 12 w) := by
  have JW := Lib.hid HW
  have JS := Lib.hid HS
  have JX := Lib.hid HX
  have JY := Lib.hid HY
  clear HW HS HX HY
  have hx' : ¬ 1000 < nx := by omega
  go_enter Tryz.func65, Tryz.ntmps65
  go_wp2_with (first
    | (go_at_call 104; refine (JW.out _).mono ?_; rintro e w1 ⟨rfl, k, rfl⟩; have b1 := below_drewN (Below.refl w.heap.size w) k)
    | (go_at_call 105; (with_reducible refine (JX.out _).mono ?_); rintro e w2 ⟨AX, cx, rfl, b⟩; have b2 := bt b1 b; clear b)
    | (go_at_call 105; (with_reducible refine (JY.out _).mono ?_); rintro e w3 ⟨rfl, b⟩; have b3 := bt b2 b; clear b)
    | (go_at_call 106; refine (JS.out _).mono ?_; rintro e w4 ⟨rfl, rfl⟩))
  go_ret
  exact ⟨rfl, b3⟩
set_option maxRecDepth 100000 in
set_option maxHeartbeats 1600000 in
theorem cT0_14_n (s N D : ByteArray) (sl : Int) (nx ny : Nat) (gx : Bool) (w : World)
    (HW : ∀ W, Calls Tryz.prog 104 #[.string s] W (WriR N D W))
    (HS : ∀ W, Calls Tryz.prog 106 #[.string s] W (IntR sl W)) (_hsl : 0 ≤ sl)
    (HX : ∀ W, Calls Tryz.prog 105 #[.string N] W (DigR nx gx W))
    (HY : ∀ W, Calls Tryz.prog 105 #[.string D] W (DigR ny true W)) (hx : nx ≤ 1000) (_hy : 1000 < ny) : Calls Tryz.prog 65 #[.string s] w (IntB 12 w) := by
  have JW := Lib.hid HW
  have JS := Lib.hid HS
  have JX := Lib.hid HX
  have JY := Lib.hid HY
  clear HW HS HX HY
  have hx' : ¬ 1000 < nx := by omega
  go_enter Tryz.func65, Tryz.ntmps65
  go_wp2_with (first
    | (go_at_call 104; refine (JW.out _).mono ?_; rintro e w1 ⟨rfl, k, rfl⟩; have b1 := below_drewN (Below.refl w.heap.size w) k)
    | (go_at_call 105; (with_reducible refine (JX.out _).mono ?_); rintro e w2 ⟨AX, cx, rfl, b⟩; have b2 := bt b1 b; clear b)
    | (go_at_call 105; (with_reducible refine (JY.out _).mono ?_); rintro e w3 ⟨AY, cy, rfl, b⟩; have b3 := bt b2 b; clear b)
    | (go_at_call 106; refine (JS.out _).mono ?_; rintro e w4 ⟨rfl, rfl⟩))
  go_ret
  exact ⟨rfl, b3⟩
set_option maxRecDepth 100000 in
set_option maxHeartbeats 1600000 in
theorem cT0_14_z (s N D : ByteArray) (sl : Int) (nx ny : Nat) (gx : Bool) (w : World)
    (HW : ∀ W, Calls Tryz.prog 104 #[.string s] W (WriR N D W))
    (HS : ∀ W, Calls Tryz.prog 106 #[.string s] W (IntR sl W)) (_hsl : 0 ≤ sl)
    (HX : ∀ W, Calls Tryz.prog 105 #[.string N] W (DigR nx gx W))
    (HY : ∀ W, Calls Tryz.prog 105 #[.string D] W (DigR ny false W)) (hx : nx ≤ 1000) (_hy : 1000 < ny) (hz : (D.toList == [48]) = true) : Calls Tryz.prog 65 #[.string s] w (IntB 12 w) := by
  have JW := Lib.hid HW
  have JS := Lib.hid HS
  have JX := Lib.hid HX
  have JY := Lib.hid HY
  clear HW HS HX HY
  have hx' : ¬ 1000 < nx := by omega
  go_enter Tryz.func65, Tryz.ntmps65
  go_wp2_with (first
    | (go_at_call 104; refine (JW.out _).mono ?_; rintro e w1 ⟨rfl, k, rfl⟩; have b1 := below_drewN (Below.refl w.heap.size w) k)
    | (go_at_call 105; (with_reducible refine (JX.out _).mono ?_); rintro e w2 ⟨AX, cx, rfl, b⟩; have b2 := bt b1 b; clear b)
    | (go_at_call 105; (with_reducible refine (JY.out _).mono ?_); rintro e w3 ⟨AY, cy, rfl, b⟩; have b3 := bt b2 b; clear b)
    | (go_at_call 106; refine (JS.out _).mono ?_; rintro e w4 ⟨rfl, rfl⟩))
  go_ret
  exact ⟨rfl, b3⟩
set_option maxRecDepth 100000 in
set_option maxHeartbeats 1600000 in
theorem cT0_14_o (s N D : ByteArray) (sl : Int) (nx ny : Nat) (gx : Bool) (w : World)
    (HW : ∀ W, Calls Tryz.prog 104 #[.string s] W (WriR N D W))
    (HS : ∀ W, Calls Tryz.prog 106 #[.string s] W (IntR sl W)) (hsl : 0 ≤ sl)
    (HX : ∀ W, Calls Tryz.prog 105 #[.string N] W (DigR nx gx W))
    (HY : ∀ W, Calls Tryz.prog 105 #[.string D] W (DigR ny false W)) (hx : nx ≤ 1000) (_hy : 1000 < ny) (hz : (D.toList == [48]) = false) (ho : (D.toList == [49]) = true) : Calls Tryz.prog 65 #[.string s] w (IntB 12 w) := by
  have JW := Lib.hid HW
  have JS := Lib.hid HS
  have JX := Lib.hid HX
  have JY := Lib.hid HY
  clear HW HS HX HY
  have hx' : ¬ 1000 < nx := by omega
  go_enter Tryz.func65, Tryz.ntmps65
  go_wp2_with (first
    | (go_at_call 104; refine (JW.out _).mono ?_; rintro e w1 ⟨rfl, k, rfl⟩; have b1 := below_drewN (Below.refl w.heap.size w) k)
    | (go_at_call 105; (with_reducible refine (JX.out _).mono ?_); rintro e w2 ⟨AX, cx, rfl, b⟩; have b2 := bt b1 b; clear b)
    | (go_at_call 105; (with_reducible refine (JY.out _).mono ?_); rintro e w3 ⟨AY, cy, rfl, b⟩; have b3 := bt b2 b; clear b)
    | (go_at_call 106; refine (JS.out _).mono ?_; rintro e w4 ⟨rfl, rfl⟩))
  go_ret
  exact ⟨rfl, b3⟩
set_option maxRecDepth 100000 in
set_option maxHeartbeats 1600000 in
theorem cT0_14_k (s N D : ByteArray) (sl : Int) (nx ny : Nat) (gx : Bool) (w : World)
    (HW : ∀ W, Calls Tryz.prog 104 #[.string s] W (WriR N D W))
    (HS : ∀ W, Calls Tryz.prog 106 #[.string s] W (IntR sl W)) (hsl : 0 ≤ sl)
    (HX : ∀ W, Calls Tryz.prog 105 #[.string N] W (DigR nx gx W))
    (HY : ∀ W, Calls Tryz.prog 105 #[.string D] W (DigR ny false W)) (hx : nx ≤ 1000) (hy : 1000 < ny) (hz : (D.toList == [48]) = false) (ho : (D.toList == [49]) = false) : Calls Tryz.prog 65 #[.string s] w (IntB 14 w) := by
  have JW := Lib.hid HW
  have JS := Lib.hid HS
  have JX := Lib.hid HX
  have JY := Lib.hid HY
  clear HW HS HX HY
  have hx' : ¬ 1000 < nx := by omega
  go_enter Tryz.func65, Tryz.ntmps65
  go_wp2_with (first
    | (go_at_call 104; refine (JW.out _).mono ?_; rintro e w1 ⟨rfl, k, rfl⟩; have b1 := below_drewN (Below.refl w.heap.size w) k)
    | (go_at_call 105; (with_reducible refine (JX.out _).mono ?_); rintro e w2 ⟨AX, cx, rfl, b⟩; have b2 := bt b1 b; clear b)
    | (go_at_call 105; (with_reducible refine (JY.out _).mono ?_); rintro e w3 ⟨AY, cy, rfl, b⟩; have b3 := bt b2 b; clear b)
    | (go_at_call 106; refine (JS.out _).mono ?_; rintro e w4 ⟨rfl, rfl⟩))
  go_ret
  exact ⟨rfl, b3⟩
set_option maxRecDepth 100000 in
set_option maxHeartbeats 1600000 in
theorem cT12_0_n (s N D : ByteArray) (sl : Int) (ny : Nat) (w : World)
    (HW : ∀ W, Calls Tryz.prog 104 #[.string s] W (WriR N D W))
    (HS : ∀ W, Calls Tryz.prog 106 #[.string s] W (IntR sl W)) (_hsl : 0 ≤ sl)
    (HX : ∀ W, Calls Tryz.prog 105 #[.string N] W (DigN W))
    (HY : ∀ W, Calls Tryz.prog 105 #[.string D] W (DigR ny true W)) (hy : ny ≤ 1000) : Calls Tryz.prog 65 #[.string s] w (IntB 12 w) := by
  have JW := Lib.hid HW
  have JS := Lib.hid HS
  have JX := Lib.hid HX
  have JY := Lib.hid HY
  clear HW HS HX HY
  have hy' : ¬ 1000 < ny := by omega
  go_enter Tryz.func65, Tryz.ntmps65
  go_wp2_with (first
    | (go_at_call 104; refine (JW.out _).mono ?_; rintro e w1 ⟨rfl, k, rfl⟩; have b1 := below_drewN (Below.refl w.heap.size w) k)
    | (go_at_call 105; (with_reducible refine (JX.out _).mono ?_); rintro e w2 ⟨rfl, b⟩; have b2 := bt b1 b; clear b)
    | (go_at_call 105; (with_reducible refine (JY.out _).mono ?_); rintro e w3 ⟨AY, cy, rfl, b⟩; have b3 := bt b2 b; clear b)
    | (go_at_call 106; refine (JS.out _).mono ?_; rintro e w4 ⟨rfl, rfl⟩))
  go_ret
  exact ⟨rfl, b3⟩
set_option maxRecDepth 100000 in
set_option maxHeartbeats 1600000 in
theorem cT12_0_z (s N D : ByteArray) (sl : Int) (ny : Nat) (w : World)
    (HW : ∀ W, Calls Tryz.prog 104 #[.string s] W (WriR N D W))
    (HS : ∀ W, Calls Tryz.prog 106 #[.string s] W (IntR sl W)) (_hsl : 0 ≤ sl)
    (HX : ∀ W, Calls Tryz.prog 105 #[.string N] W (DigN W))
    (HY : ∀ W, Calls Tryz.prog 105 #[.string D] W (DigR ny false W)) (hy : ny ≤ 1000) (_hz : (D.toList == [48]) = true) : Calls Tryz.prog 65 #[.string s] w (IntB 12 w) := by
  have JW := Lib.hid HW
  have JS := Lib.hid HS
  have JX := Lib.hid HX
  have JY := Lib.hid HY
  clear HW HS HX HY
  have hy' : ¬ 1000 < ny := by omega
  go_enter Tryz.func65, Tryz.ntmps65
  go_wp2_with (first
    | (go_at_call 104; refine (JW.out _).mono ?_; rintro e w1 ⟨rfl, k, rfl⟩; have b1 := below_drewN (Below.refl w.heap.size w) k)
    | (go_at_call 105; (with_reducible refine (JX.out _).mono ?_); rintro e w2 ⟨rfl, b⟩; have b2 := bt b1 b; clear b)
    | (go_at_call 105; (with_reducible refine (JY.out _).mono ?_); rintro e w3 ⟨AY, cy, rfl, b⟩; have b3 := bt b2 b; clear b)
    | (go_at_call 106; refine (JS.out _).mono ?_; rintro e w4 ⟨rfl, rfl⟩))
  go_ret
  exact ⟨rfl, b3⟩
set_option maxRecDepth 100000 in
set_option maxHeartbeats 1600000 in
theorem cT12_0_o (s N D : ByteArray) (sl : Int) (ny : Nat) (w : World)
    (HW : ∀ W, Calls Tryz.prog 104 #[.string s] W (WriR N D W))
    (HS : ∀ W, Calls Tryz.prog 106 #[.string s] W (IntR sl W)) (_hsl : 0 ≤ sl)
    (HX : ∀ W, Calls Tryz.prog 105 #[.string N] W (DigN W))
    (HY : ∀ W, Calls Tryz.prog 105 #[.string D] W (DigR ny false W)) (hy : ny ≤ 1000) (_hz : (D.toList == [48]) = false) (_ho : (D.toList == [49]) = true) : Calls Tryz.prog 65 #[.string s] w (IntB 12 w) := by
  have JW := Lib.hid HW
  have JS := Lib.hid HS
  have JX := Lib.hid HX
  have JY := Lib.hid HY
  clear HW HS HX HY
  have hy' : ¬ 1000 < ny := by omega
  go_enter Tryz.func65, Tryz.ntmps65
  go_wp2_with (first
    | (go_at_call 104; refine (JW.out _).mono ?_; rintro e w1 ⟨rfl, k, rfl⟩; have b1 := below_drewN (Below.refl w.heap.size w) k)
    | (go_at_call 105; (with_reducible refine (JX.out _).mono ?_); rintro e w2 ⟨rfl, b⟩; have b2 := bt b1 b; clear b)
    | (go_at_call 105; (with_reducible refine (JY.out _).mono ?_); rintro e w3 ⟨AY, cy, rfl, b⟩; have b3 := bt b2 b; clear b)
    | (go_at_call 106; refine (JS.out _).mono ?_; rintro e w4 ⟨rfl, rfl⟩))
  go_ret
  exact ⟨rfl, b3⟩
set_option maxRecDepth 100000 in
set_option maxHeartbeats 1600000 in
theorem cT12_0_k (s N D : ByteArray) (sl : Int) (ny : Nat) (w : World)
    (HW : ∀ W, Calls Tryz.prog 104 #[.string s] W (WriR N D W))
    (HS : ∀ W, Calls Tryz.prog 106 #[.string s] W (IntR sl W)) (_hsl : 0 ≤ sl)
    (HX : ∀ W, Calls Tryz.prog 105 #[.string N] W (DigN W))
    (HY : ∀ W, Calls Tryz.prog 105 #[.string D] W (DigR ny false W)) (hy : ny ≤ 1000) (_hz : (D.toList == [48]) = false) (_ho : (D.toList == [49]) = false) : Calls Tryz.prog 65 #[.string s] w (IntB 12 w) := by
  have JW := Lib.hid HW
  have JS := Lib.hid HS
  have JX := Lib.hid HX
  have JY := Lib.hid HY
  clear HW HS HX HY
  have hy' : ¬ 1000 < ny := by omega
  go_enter Tryz.func65, Tryz.ntmps65
  go_wp2_with (first
    | (go_at_call 104; refine (JW.out _).mono ?_; rintro e w1 ⟨rfl, k, rfl⟩; have b1 := below_drewN (Below.refl w.heap.size w) k)
    | (go_at_call 105; (with_reducible refine (JX.out _).mono ?_); rintro e w2 ⟨rfl, b⟩; have b2 := bt b1 b; clear b)
    | (go_at_call 105; (with_reducible refine (JY.out _).mono ?_); rintro e w3 ⟨AY, cy, rfl, b⟩; have b3 := bt b2 b; clear b)
    | (go_at_call 106; refine (JS.out _).mono ?_; rintro e w4 ⟨rfl, rfl⟩))
  go_ret
  exact ⟨rfl, b3⟩
set_option maxRecDepth 100000 in
set_option maxHeartbeats 1600000 in
theorem cT12_12 (s N D : ByteArray) (sl : Int) (w : World)
    (HW : ∀ W, Calls Tryz.prog 104 #[.string s] W (WriR N D W))
    (HS : ∀ W, Calls Tryz.prog 106 #[.string s] W (IntR sl W)) (_hsl : 0 ≤ sl)
    (HX : ∀ W, Calls Tryz.prog 105 #[.string N] W (DigN W))
    (HY : ∀ W, Calls Tryz.prog 105 #[.string D] W (DigN W)) : Calls Tryz.prog 65 #[.string s] w (IntB 12 w) := by
  have JW := Lib.hid HW
  have JS := Lib.hid HS
  have JX := Lib.hid HX
  have JY := Lib.hid HY
  clear HW HS HX HY
  go_enter Tryz.func65, Tryz.ntmps65
  go_wp2_with (first
    | (go_at_call 104; refine (JW.out _).mono ?_; rintro e w1 ⟨rfl, k, rfl⟩; have b1 := below_drewN (Below.refl w.heap.size w) k)
    | (go_at_call 105; (with_reducible refine (JX.out _).mono ?_); rintro e w2 ⟨rfl, b⟩; have b2 := bt b1 b; clear b)
    | (go_at_call 105; (with_reducible refine (JY.out _).mono ?_); rintro e w3 ⟨rfl, b⟩; have b3 := bt b2 b; clear b)
    | (go_at_call 106; refine (JS.out _).mono ?_; rintro e w4 ⟨rfl, rfl⟩))
  go_ret
  exact ⟨rfl, b3⟩
set_option maxRecDepth 100000 in
set_option maxHeartbeats 1600000 in
theorem cT12_14_n (s N D : ByteArray) (sl : Int) (ny : Nat) (w : World)
    (HW : ∀ W, Calls Tryz.prog 104 #[.string s] W (WriR N D W))
    (HS : ∀ W, Calls Tryz.prog 106 #[.string s] W (IntR sl W)) (_hsl : 0 ≤ sl)
    (HX : ∀ W, Calls Tryz.prog 105 #[.string N] W (DigN W))
    (HY : ∀ W, Calls Tryz.prog 105 #[.string D] W (DigR ny true W)) (_hy : 1000 < ny) : Calls Tryz.prog 65 #[.string s] w (IntB 12 w) := by
  have JW := Lib.hid HW
  have JS := Lib.hid HS
  have JX := Lib.hid HX
  have JY := Lib.hid HY
  clear HW HS HX HY
  go_enter Tryz.func65, Tryz.ntmps65
  go_wp2_with (first
    | (go_at_call 104; refine (JW.out _).mono ?_; rintro e w1 ⟨rfl, k, rfl⟩; have b1 := below_drewN (Below.refl w.heap.size w) k)
    | (go_at_call 105; (with_reducible refine (JX.out _).mono ?_); rintro e w2 ⟨rfl, b⟩; have b2 := bt b1 b; clear b)
    | (go_at_call 105; (with_reducible refine (JY.out _).mono ?_); rintro e w3 ⟨AY, cy, rfl, b⟩; have b3 := bt b2 b; clear b)
    | (go_at_call 106; refine (JS.out _).mono ?_; rintro e w4 ⟨rfl, rfl⟩))
  go_ret
  exact ⟨rfl, b3⟩
set_option maxRecDepth 100000 in
set_option maxHeartbeats 1600000 in
theorem cT12_14_z (s N D : ByteArray) (sl : Int) (ny : Nat) (w : World)
    (HW : ∀ W, Calls Tryz.prog 104 #[.string s] W (WriR N D W))
    (HS : ∀ W, Calls Tryz.prog 106 #[.string s] W (IntR sl W)) (_hsl : 0 ≤ sl)
    (HX : ∀ W, Calls Tryz.prog 105 #[.string N] W (DigN W))
    (HY : ∀ W, Calls Tryz.prog 105 #[.string D] W (DigR ny false W)) (_hy : 1000 < ny) (_hz : (D.toList == [48]) = true) : Calls Tryz.prog 65 #[.string s] w (IntB 12 w) := by
  have JW := Lib.hid HW
  have JS := Lib.hid HS
  have JX := Lib.hid HX
  have JY := Lib.hid HY
  clear HW HS HX HY
  go_enter Tryz.func65, Tryz.ntmps65
  go_wp2_with (first
    | (go_at_call 104; refine (JW.out _).mono ?_; rintro e w1 ⟨rfl, k, rfl⟩; have b1 := below_drewN (Below.refl w.heap.size w) k)
    | (go_at_call 105; (with_reducible refine (JX.out _).mono ?_); rintro e w2 ⟨rfl, b⟩; have b2 := bt b1 b; clear b)
    | (go_at_call 105; (with_reducible refine (JY.out _).mono ?_); rintro e w3 ⟨AY, cy, rfl, b⟩; have b3 := bt b2 b; clear b)
    | (go_at_call 106; refine (JS.out _).mono ?_; rintro e w4 ⟨rfl, rfl⟩))
  go_ret
  exact ⟨rfl, b3⟩
set_option maxRecDepth 100000 in
set_option maxHeartbeats 1600000 in
theorem cT12_14_o (s N D : ByteArray) (sl : Int) (ny : Nat) (w : World)
    (HW : ∀ W, Calls Tryz.prog 104 #[.string s] W (WriR N D W))
    (HS : ∀ W, Calls Tryz.prog 106 #[.string s] W (IntR sl W)) (_hsl : 0 ≤ sl)
    (HX : ∀ W, Calls Tryz.prog 105 #[.string N] W (DigN W))
    (HY : ∀ W, Calls Tryz.prog 105 #[.string D] W (DigR ny false W)) (_hy : 1000 < ny) (_hz : (D.toList == [48]) = false) (_ho : (D.toList == [49]) = true) : Calls Tryz.prog 65 #[.string s] w (IntB 12 w) := by
  have JW := Lib.hid HW
  have JS := Lib.hid HS
  have JX := Lib.hid HX
  have JY := Lib.hid HY
  clear HW HS HX HY
  go_enter Tryz.func65, Tryz.ntmps65
  go_wp2_with (first
    | (go_at_call 104; refine (JW.out _).mono ?_; rintro e w1 ⟨rfl, k, rfl⟩; have b1 := below_drewN (Below.refl w.heap.size w) k)
    | (go_at_call 105; (with_reducible refine (JX.out _).mono ?_); rintro e w2 ⟨rfl, b⟩; have b2 := bt b1 b; clear b)
    | (go_at_call 105; (with_reducible refine (JY.out _).mono ?_); rintro e w3 ⟨AY, cy, rfl, b⟩; have b3 := bt b2 b; clear b)
    | (go_at_call 106; refine (JS.out _).mono ?_; rintro e w4 ⟨rfl, rfl⟩))
  go_ret
  exact ⟨rfl, b3⟩
set_option maxRecDepth 100000 in
set_option maxHeartbeats 1600000 in
theorem cT12_14_k (s N D : ByteArray) (sl : Int) (ny : Nat) (w : World)
    (HW : ∀ W, Calls Tryz.prog 104 #[.string s] W (WriR N D W))
    (HS : ∀ W, Calls Tryz.prog 106 #[.string s] W (IntR sl W)) (_hsl : 0 ≤ sl)
    (HX : ∀ W, Calls Tryz.prog 105 #[.string N] W (DigN W))
    (HY : ∀ W, Calls Tryz.prog 105 #[.string D] W (DigR ny false W)) (_hy : 1000 < ny) (_hz : (D.toList == [48]) = false) (_ho : (D.toList == [49]) = false) : Calls Tryz.prog 65 #[.string s] w (IntB 12 w) := by
  have JW := Lib.hid HW
  have JS := Lib.hid HS
  have JX := Lib.hid HX
  have JY := Lib.hid HY
  clear HW HS HX HY
  go_enter Tryz.func65, Tryz.ntmps65
  go_wp2_with (first
    | (go_at_call 104; refine (JW.out _).mono ?_; rintro e w1 ⟨rfl, k, rfl⟩; have b1 := below_drewN (Below.refl w.heap.size w) k)
    | (go_at_call 105; (with_reducible refine (JX.out _).mono ?_); rintro e w2 ⟨rfl, b⟩; have b2 := bt b1 b; clear b)
    | (go_at_call 105; (with_reducible refine (JY.out _).mono ?_); rintro e w3 ⟨AY, cy, rfl, b⟩; have b3 := bt b2 b; clear b)
    | (go_at_call 106; refine (JS.out _).mono ?_; rintro e w4 ⟨rfl, rfl⟩))
  go_ret
  exact ⟨rfl, b3⟩
set_option maxRecDepth 100000 in
set_option maxHeartbeats 1600000 in
theorem cT14_0_n (s N D : ByteArray) (sl : Int) (nx ny : Nat) (gx : Bool) (w : World)
    (HW : ∀ W, Calls Tryz.prog 104 #[.string s] W (WriR N D W))
    (HS : ∀ W, Calls Tryz.prog 106 #[.string s] W (IntR sl W)) (_hsl : 0 ≤ sl)
    (HX : ∀ W, Calls Tryz.prog 105 #[.string N] W (DigR nx gx W))
    (HY : ∀ W, Calls Tryz.prog 105 #[.string D] W (DigR ny true W)) (_hx : 1000 < nx) (hy : ny ≤ 1000) : Calls Tryz.prog 65 #[.string s] w (IntB 12 w) := by
  have JW := Lib.hid HW
  have JS := Lib.hid HS
  have JX := Lib.hid HX
  have JY := Lib.hid HY
  clear HW HS HX HY
  have hy' : ¬ 1000 < ny := by omega
  go_enter Tryz.func65, Tryz.ntmps65
  go_wp2_with (first
    | (go_at_call 104; refine (JW.out _).mono ?_; rintro e w1 ⟨rfl, k, rfl⟩; have b1 := below_drewN (Below.refl w.heap.size w) k)
    | (go_at_call 105; (with_reducible refine (JX.out _).mono ?_); rintro e w2 ⟨AX, cx, rfl, b⟩; have b2 := bt b1 b; clear b)
    | (go_at_call 105; (with_reducible refine (JY.out _).mono ?_); rintro e w3 ⟨AY, cy, rfl, b⟩; have b3 := bt b2 b; clear b)
    | (go_at_call 106; refine (JS.out _).mono ?_; rintro e w4 ⟨rfl, rfl⟩))
  go_ret
  exact ⟨rfl, b3⟩
set_option maxRecDepth 100000 in
set_option maxHeartbeats 1600000 in
theorem cT14_0_z (s N D : ByteArray) (sl : Int) (nx ny : Nat) (gx : Bool) (w : World)
    (HW : ∀ W, Calls Tryz.prog 104 #[.string s] W (WriR N D W))
    (HS : ∀ W, Calls Tryz.prog 106 #[.string s] W (IntR sl W)) (_hsl : 0 ≤ sl)
    (HX : ∀ W, Calls Tryz.prog 105 #[.string N] W (DigR nx gx W))
    (HY : ∀ W, Calls Tryz.prog 105 #[.string D] W (DigR ny false W)) (_hx : 1000 < nx) (hy : ny ≤ 1000) (hz : (D.toList == [48]) = true) : Calls Tryz.prog 65 #[.string s] w (IntB 12 w) := by
  have JW := Lib.hid HW
  have JS := Lib.hid HS
  have JX := Lib.hid HX
  have JY := Lib.hid HY
  clear HW HS HX HY
  have hy' : ¬ 1000 < ny := by omega
  go_enter Tryz.func65, Tryz.ntmps65
  go_wp2_with (first
    | (go_at_call 104; refine (JW.out _).mono ?_; rintro e w1 ⟨rfl, k, rfl⟩; have b1 := below_drewN (Below.refl w.heap.size w) k)
    | (go_at_call 105; (with_reducible refine (JX.out _).mono ?_); rintro e w2 ⟨AX, cx, rfl, b⟩; have b2 := bt b1 b; clear b)
    | (go_at_call 105; (with_reducible refine (JY.out _).mono ?_); rintro e w3 ⟨AY, cy, rfl, b⟩; have b3 := bt b2 b; clear b)
    | (go_at_call 106; refine (JS.out _).mono ?_; rintro e w4 ⟨rfl, rfl⟩))
  go_ret
  exact ⟨rfl, b3⟩
set_option maxRecDepth 100000 in
set_option maxHeartbeats 1600000 in
theorem cT14_0_o (s N D : ByteArray) (sl : Int) (nx ny : Nat) (gx : Bool) (w : World)
    (HW : ∀ W, Calls Tryz.prog 104 #[.string s] W (WriR N D W))
    (HS : ∀ W, Calls Tryz.prog 106 #[.string s] W (IntR sl W)) (hsl : 0 ≤ sl)
    (HX : ∀ W, Calls Tryz.prog 105 #[.string N] W (DigR nx gx W))
    (HY : ∀ W, Calls Tryz.prog 105 #[.string D] W (DigR ny false W)) (_hx : 1000 < nx) (hy : ny ≤ 1000) (hz : (D.toList == [48]) = false) (ho : (D.toList == [49]) = true) : Calls Tryz.prog 65 #[.string s] w (IntB 12 w) := by
  have JW := Lib.hid HW
  have JS := Lib.hid HS
  have JX := Lib.hid HX
  have JY := Lib.hid HY
  clear HW HS HX HY
  have hy' : ¬ 1000 < ny := by omega
  go_enter Tryz.func65, Tryz.ntmps65
  go_wp2_with (first
    | (go_at_call 104; refine (JW.out _).mono ?_; rintro e w1 ⟨rfl, k, rfl⟩; have b1 := below_drewN (Below.refl w.heap.size w) k)
    | (go_at_call 105; (with_reducible refine (JX.out _).mono ?_); rintro e w2 ⟨AX, cx, rfl, b⟩; have b2 := bt b1 b; clear b)
    | (go_at_call 105; (with_reducible refine (JY.out _).mono ?_); rintro e w3 ⟨AY, cy, rfl, b⟩; have b3 := bt b2 b; clear b)
    | (go_at_call 106; refine (JS.out _).mono ?_; rintro e w4 ⟨rfl, rfl⟩))
  go_ret
  exact ⟨rfl, b3⟩
set_option maxRecDepth 100000 in
set_option maxHeartbeats 1600000 in
theorem cT14_0_k (s N D : ByteArray) (sl : Int) (nx ny : Nat) (gx : Bool) (w : World)
    (HW : ∀ W, Calls Tryz.prog 104 #[.string s] W (WriR N D W))
    (HS : ∀ W, Calls Tryz.prog 106 #[.string s] W (IntR sl W)) (hsl : 0 ≤ sl)
    (HX : ∀ W, Calls Tryz.prog 105 #[.string N] W (DigR nx gx W))
    (HY : ∀ W, Calls Tryz.prog 105 #[.string D] W (DigR ny false W)) (hx : 1000 < nx) (hy : ny ≤ 1000) (hz : (D.toList == [48]) = false) (ho : (D.toList == [49]) = false) : Calls Tryz.prog 65 #[.string s] w (IntB 14 w) := by
  have JW := Lib.hid HW
  have JS := Lib.hid HS
  have JX := Lib.hid HX
  have JY := Lib.hid HY
  clear HW HS HX HY
  have hy' : ¬ 1000 < ny := by omega
  go_enter Tryz.func65, Tryz.ntmps65
  go_wp2_with (first
    | (go_at_call 104; refine (JW.out _).mono ?_; rintro e w1 ⟨rfl, k, rfl⟩; have b1 := below_drewN (Below.refl w.heap.size w) k)
    | (go_at_call 105; (with_reducible refine (JX.out _).mono ?_); rintro e w2 ⟨AX, cx, rfl, b⟩; have b2 := bt b1 b; clear b)
    | (go_at_call 105; (with_reducible refine (JY.out _).mono ?_); rintro e w3 ⟨AY, cy, rfl, b⟩; have b3 := bt b2 b; clear b)
    | (go_at_call 106; refine (JS.out _).mono ?_; rintro e w4 ⟨rfl, rfl⟩))
  go_ret
  exact ⟨rfl, b3⟩
set_option maxRecDepth 100000 in
set_option maxHeartbeats 1600000 in
theorem cT14_12 (s N D : ByteArray) (sl : Int) (nx : Nat) (gx : Bool) (w : World)
    (HW : ∀ W, Calls Tryz.prog 104 #[.string s] W (WriR N D W))
    (HS : ∀ W, Calls Tryz.prog 106 #[.string s] W (IntR sl W)) (_hsl : 0 ≤ sl)
    (HX : ∀ W, Calls Tryz.prog 105 #[.string N] W (DigR nx gx W))
    (HY : ∀ W, Calls Tryz.prog 105 #[.string D] W (DigN W)) (_hx : 1000 < nx) : Calls Tryz.prog 65 #[.string s] w (IntB 12 w) := by
  have JW := Lib.hid HW
  have JS := Lib.hid HS
  have JX := Lib.hid HX
  have JY := Lib.hid HY
  clear HW HS HX HY
  go_enter Tryz.func65, Tryz.ntmps65
  go_wp2_with (first
    | (go_at_call 104; refine (JW.out _).mono ?_; rintro e w1 ⟨rfl, k, rfl⟩; have b1 := below_drewN (Below.refl w.heap.size w) k)
    | (go_at_call 105; (with_reducible refine (JX.out _).mono ?_); rintro e w2 ⟨AX, cx, rfl, b⟩; have b2 := bt b1 b; clear b)
    | (go_at_call 105; (with_reducible refine (JY.out _).mono ?_); rintro e w3 ⟨rfl, b⟩; have b3 := bt b2 b; clear b)
    | (go_at_call 106; refine (JS.out _).mono ?_; rintro e w4 ⟨rfl, rfl⟩))
  go_ret
  exact ⟨rfl, b3⟩
set_option maxRecDepth 100000 in
set_option maxHeartbeats 1600000 in
theorem cT14_14_n (s N D : ByteArray) (sl : Int) (nx ny : Nat) (gx : Bool) (w : World)
    (HW : ∀ W, Calls Tryz.prog 104 #[.string s] W (WriR N D W))
    (HS : ∀ W, Calls Tryz.prog 106 #[.string s] W (IntR sl W)) (_hsl : 0 ≤ sl)
    (HX : ∀ W, Calls Tryz.prog 105 #[.string N] W (DigR nx gx W))
    (HY : ∀ W, Calls Tryz.prog 105 #[.string D] W (DigR ny true W)) (_hx : 1000 < nx) (_hy : 1000 < ny) : Calls Tryz.prog 65 #[.string s] w (IntB 12 w) := by
  have JW := Lib.hid HW
  have JS := Lib.hid HS
  have JX := Lib.hid HX
  have JY := Lib.hid HY
  clear HW HS HX HY
  go_enter Tryz.func65, Tryz.ntmps65
  go_wp2_with (first
    | (go_at_call 104; refine (JW.out _).mono ?_; rintro e w1 ⟨rfl, k, rfl⟩; have b1 := below_drewN (Below.refl w.heap.size w) k)
    | (go_at_call 105; (with_reducible refine (JX.out _).mono ?_); rintro e w2 ⟨AX, cx, rfl, b⟩; have b2 := bt b1 b; clear b)
    | (go_at_call 105; (with_reducible refine (JY.out _).mono ?_); rintro e w3 ⟨AY, cy, rfl, b⟩; have b3 := bt b2 b; clear b)
    | (go_at_call 106; refine (JS.out _).mono ?_; rintro e w4 ⟨rfl, rfl⟩))
  go_ret
  exact ⟨rfl, b3⟩
set_option maxRecDepth 100000 in
set_option maxHeartbeats 1600000 in
theorem cT14_14_z (s N D : ByteArray) (sl : Int) (nx ny : Nat) (gx : Bool) (w : World)
    (HW : ∀ W, Calls Tryz.prog 104 #[.string s] W (WriR N D W))
    (HS : ∀ W, Calls Tryz.prog 106 #[.string s] W (IntR sl W)) (_hsl : 0 ≤ sl)
    (HX : ∀ W, Calls Tryz.prog 105 #[.string N] W (DigR nx gx W))
    (HY : ∀ W, Calls Tryz.prog 105 #[.string D] W (DigR ny false W)) (_hx : 1000 < nx) (_hy : 1000 < ny) (hz : (D.toList == [48]) = true) : Calls Tryz.prog 65 #[.string s] w (IntB 12 w) := by
  have JW := Lib.hid HW
  have JS := Lib.hid HS
  have JX := Lib.hid HX
  have JY := Lib.hid HY
  clear HW HS HX HY
  go_enter Tryz.func65, Tryz.ntmps65
  go_wp2_with (first
    | (go_at_call 104; refine (JW.out _).mono ?_; rintro e w1 ⟨rfl, k, rfl⟩; have b1 := below_drewN (Below.refl w.heap.size w) k)
    | (go_at_call 105; (with_reducible refine (JX.out _).mono ?_); rintro e w2 ⟨AX, cx, rfl, b⟩; have b2 := bt b1 b; clear b)
    | (go_at_call 105; (with_reducible refine (JY.out _).mono ?_); rintro e w3 ⟨AY, cy, rfl, b⟩; have b3 := bt b2 b; clear b)
    | (go_at_call 106; refine (JS.out _).mono ?_; rintro e w4 ⟨rfl, rfl⟩))
  go_ret
  exact ⟨rfl, b3⟩
set_option maxRecDepth 100000 in
set_option maxHeartbeats 1600000 in
theorem cT14_14_o (s N D : ByteArray) (sl : Int) (nx ny : Nat) (gx : Bool) (w : World)
    (HW : ∀ W, Calls Tryz.prog 104 #[.string s] W (WriR N D W))
    (HS : ∀ W, Calls Tryz.prog 106 #[.string s] W (IntR sl W)) (hsl : 0 ≤ sl)
    (HX : ∀ W, Calls Tryz.prog 105 #[.string N] W (DigR nx gx W))
    (HY : ∀ W, Calls Tryz.prog 105 #[.string D] W (DigR ny false W)) (_hx : 1000 < nx) (_hy : 1000 < ny) (hz : (D.toList == [48]) = false) (ho : (D.toList == [49]) = true) : Calls Tryz.prog 65 #[.string s] w (IntB 12 w) := by
  have JW := Lib.hid HW
  have JS := Lib.hid HS
  have JX := Lib.hid HX
  have JY := Lib.hid HY
  clear HW HS HX HY
  go_enter Tryz.func65, Tryz.ntmps65
  go_wp2_with (first
    | (go_at_call 104; refine (JW.out _).mono ?_; rintro e w1 ⟨rfl, k, rfl⟩; have b1 := below_drewN (Below.refl w.heap.size w) k)
    | (go_at_call 105; (with_reducible refine (JX.out _).mono ?_); rintro e w2 ⟨AX, cx, rfl, b⟩; have b2 := bt b1 b; clear b)
    | (go_at_call 105; (with_reducible refine (JY.out _).mono ?_); rintro e w3 ⟨AY, cy, rfl, b⟩; have b3 := bt b2 b; clear b)
    | (go_at_call 106; refine (JS.out _).mono ?_; rintro e w4 ⟨rfl, rfl⟩))
  go_ret
  exact ⟨rfl, b3⟩
set_option maxRecDepth 100000 in
set_option maxHeartbeats 1600000 in
theorem cT14_14_k (s N D : ByteArray) (sl : Int) (nx ny : Nat) (gx : Bool) (w : World)
    (HW : ∀ W, Calls Tryz.prog 104 #[.string s] W (WriR N D W))
    (HS : ∀ W, Calls Tryz.prog 106 #[.string s] W (IntR sl W)) (hsl : 0 ≤ sl)
    (HX : ∀ W, Calls Tryz.prog 105 #[.string N] W (DigR nx gx W))
    (HY : ∀ W, Calls Tryz.prog 105 #[.string D] W (DigR ny false W)) (hx : 1000 < nx) (_hy : 1000 < ny) (hz : (D.toList == [48]) = false) (ho : (D.toList == [49]) = false) : Calls Tryz.prog 65 #[.string s] w (IntB 14 w) := by
  have JW := Lib.hid HW
  have JS := Lib.hid HS
  have JX := Lib.hid HX
  have JY := Lib.hid HY
  clear HW HS HX HY
  go_enter Tryz.func65, Tryz.ntmps65
  go_wp2_with (first
    | (go_at_call 104; refine (JW.out _).mono ?_; rintro e w1 ⟨rfl, k, rfl⟩; have b1 := below_drewN (Below.refl w.heap.size w) k)
    | (go_at_call 105; (with_reducible refine (JX.out _).mono ?_); rintro e w2 ⟨AX, cx, rfl, b⟩; have b2 := bt b1 b; clear b)
    | (go_at_call 105; (with_reducible refine (JY.out _).mono ?_); rintro e w3 ⟨AY, cy, rfl, b⟩; have b3 := bt b2 b; clear b)
    | (go_at_call 106; refine (JS.out _).mono ?_; rintro e w4 ⟨rfl, rfl⟩))
  go_ret
  exact ⟨rfl, b3⟩
set_option maxRecDepth 100000 in
set_option maxHeartbeats 1600000 in
theorem cF0 (s N D G : ByteArray) (sl : Int) (nx ny : Nat) (gx : Bool) (w : World)
    (HW : ∀ W, Calls Tryz.prog 104 #[.string s] W (WriR N D W))
    (HS : ∀ W, Calls Tryz.prog 106 #[.string s] W (IntR sl W)) (hsl : sl ≤ -1)
    (HX : ∀ W, Calls Tryz.prog 105 #[.string N] W (DigR nx gx W))
    (HY : ∀ W, Calls Tryz.prog 105 #[.string D] W (DigR ny false W)) (hx : nx ≤ 1000) (hy : ny ≤ 1000) (hz : (D.toList == [48]) = false) (_ho : (D.toList == [49]) = true)
    (HG : ∀ W, Calls Tryz.prog 107 #[.string N, .string D] W (GcdR G W)) (_hG : (G.toList == [49]) = true) : Calls Tryz.prog 65 #[.string s] w (IntB 0 w) := by
  have JW := Lib.hid HW
  have JS := Lib.hid HS
  have JX := Lib.hid HX
  have JY := Lib.hid HY
  have JG := Lib.hid HG
  clear HW HS HX HY HG
  have hx' : ¬ 1000 < nx := by omega
  have hy' : ¬ 1000 < ny := by omega
  go_enter Tryz.func65, Tryz.ntmps65
  go_wp2_with (first
    | (go_at_call 104; refine (JW.out _).mono ?_; rintro e w1 ⟨rfl, k, rfl⟩; have b1 := below_drewN (Below.refl w.heap.size w) k)
    | (go_at_call 105; (with_reducible refine (JX.out _).mono ?_); rintro e w2 ⟨AX, cx, rfl, b⟩; have b2 := bt b1 b; clear b)
    | (go_at_call 105; (with_reducible refine (JY.out _).mono ?_); rintro e w3 ⟨AY, cy, rfl, b⟩; have b3 := bt b2 b; clear b)
    | (go_at_call 106; refine (JS.out _).mono ?_; rintro e w4 ⟨rfl, rfl⟩)
    | (go_at_call 107; refine (JG.out _).mono ?_; rintro e w5 ⟨rfl, b⟩; have b4 := bt b3 b; clear b))
  go_ret
  exact ⟨rfl, b4⟩
set_option maxRecDepth 100000 in
set_option maxHeartbeats 1600000 in
theorem cF12 (s N D : ByteArray) (sl : Int) (ny : Nat) (w : World)
    (HW : ∀ W, Calls Tryz.prog 104 #[.string s] W (WriR N D W))
    (HS : ∀ W, Calls Tryz.prog 106 #[.string s] W (IntR sl W)) (_hsl : sl ≤ -1)
    (HX : ∀ W, Calls Tryz.prog 105 #[.string N] W (DigN W))
    (HY : ∀ W, Calls Tryz.prog 105 #[.string D] W (DigR ny false W)) (hy : ny ≤ 1000) (_hz : (D.toList == [48]) = false) (_ho : (D.toList == [49]) = true) : Calls Tryz.prog 65 #[.string s] w (IntB 12 w) := by
  have JW := Lib.hid HW
  have JS := Lib.hid HS
  have JX := Lib.hid HX
  have JY := Lib.hid HY
  clear HW HS HX HY
  have hy' : ¬ 1000 < ny := by omega
  go_enter Tryz.func65, Tryz.ntmps65
  go_wp2_with (first
    | (go_at_call 104; refine (JW.out _).mono ?_; rintro e w1 ⟨rfl, k, rfl⟩; have b1 := below_drewN (Below.refl w.heap.size w) k)
    | (go_at_call 105; (with_reducible refine (JX.out _).mono ?_); rintro e w2 ⟨rfl, b⟩; have b2 := bt b1 b; clear b)
    | (go_at_call 105; (with_reducible refine (JY.out _).mono ?_); rintro e w3 ⟨AY, cy, rfl, b⟩; have b3 := bt b2 b; clear b)
    | (go_at_call 106; refine (JS.out _).mono ?_; rintro e w4 ⟨rfl, rfl⟩))
  go_ret
  exact ⟨rfl, b3⟩
set_option maxRecDepth 100000 in
set_option maxHeartbeats 1600000 in
theorem cF14 (s N D : ByteArray) (sl : Int) (nx ny : Nat) (gx : Bool) (w : World)
    (HW : ∀ W, Calls Tryz.prog 104 #[.string s] W (WriR N D W))
    (HS : ∀ W, Calls Tryz.prog 106 #[.string s] W (IntR sl W)) (hsl : sl ≤ -1)
    (HX : ∀ W, Calls Tryz.prog 105 #[.string N] W (DigR nx gx W))
    (HY : ∀ W, Calls Tryz.prog 105 #[.string D] W (DigR ny false W)) (hx : 1000 < nx) (hy : ny ≤ 1000) (hz : (D.toList == [48]) = false) (_ho : (D.toList == [49]) = true) : Calls Tryz.prog 65 #[.string s] w (IntB 14 w) := by
  have JW := Lib.hid HW
  have JS := Lib.hid HS
  have JX := Lib.hid HX
  have JY := Lib.hid HY
  clear HW HS HX HY
  have hy' : ¬ 1000 < ny := by omega
  go_enter Tryz.func65, Tryz.ntmps65
  go_wp2_with (first
    | (go_at_call 104; refine (JW.out _).mono ?_; rintro e w1 ⟨rfl, k, rfl⟩; have b1 := below_drewN (Below.refl w.heap.size w) k)
    | (go_at_call 105; (with_reducible refine (JX.out _).mono ?_); rintro e w2 ⟨AX, cx, rfl, b⟩; have b2 := bt b1 b; clear b)
    | (go_at_call 105; (with_reducible refine (JY.out _).mono ?_); rintro e w3 ⟨AY, cy, rfl, b⟩; have b3 := bt b2 b; clear b)
    | (go_at_call 106; refine (JS.out _).mono ?_; rintro e w4 ⟨rfl, rfl⟩))
  go_ret
  exact ⟨rfl, b3⟩
end Go.Proofs.YtbfimfjhdbpenaaGreatDoor
/- The walks of the reference of layer 2: Check as a whole, Great, Four. -/
namespace Go.Proofs.YtbfimfjhdbpenaaGreatDoor
open Go Go.RowKit
theorem digits_r (l : List UInt8) (h : ¬ chk l = 12) (hlen : l.length ≤ 1099511627776) (g : Bool) (hg : ngB l = g) (w : World) :
    Calls Tryz.prog 105 #[.string ⟨l.toArray⟩] w (DigR (bod l).length g w) := by
  subst hg
  refine (digits_yes ⟨l.toArray⟩ w h hlen).mono ?_
  rintro e w' ⟨v, rfl, hown, hb⟩
  obtain ⟨A, c, rfl, _, _⟩ := SlA.of_own hown
  exact ⟨A, c, rfl, hb⟩
theorem digits_n (l : List UInt8) (h : chk l = 12) (hlen : l.length ≤ 1099511627776) (w : World) :
    Calls Tryz.prog 105 #[.string ⟨l.toArray⟩] w (DigN w) := digits_no ⟨l.toArray⟩ w h hlen
theorem bod_big {l : List UInt8} (h : chk l = 14) : 1000 < (bod l).length := by
  have e := chk_len (l := l) (by rw [h]; decide)
  rw [h] at e
  split at e
  · assumption
  · cases e
theorem bod_ok {l : List UInt8} (h : chk l = 0) : (bod l).length ≤ 1000 := (bod_len_of_chk h).1
theorem slS_yes {l : List UInt8} (h : hB l = true) : 0 ≤ slS l := by
  unfold hB at h
  unfold slS
  cases hs : spl l with
  | none => rw [hs] at h; cases h
  | some p => exact Int.natCast_nonneg _
theorem slS_no {l : List UInt8} (h : hB l = false) : slS l ≤ -1 := by
  unfold hB at h
  unfold slS
  cases hs : spl l with
  | none => exact Int.le_refl _
  | some p => rw [hs] at h; cases h
theorem okD_parts (d : List UInt8) : okD d = (!ngB d && !((⟨d.toArray⟩ : ByteArray).toList == [48]) && !((⟨d.toArray⟩ : ByteArray).toList == [49])) := by
  rw [Lib.toList_data]; rfl
set_option maxHeartbeats 1600000 in
theorem refRCheck_any (s : ByteArray) (hs : s.size ≤ 1048576) (w : World) :
    Calls Tryz.prog 65 #[.string s] w (IntB (chkR s.data.toList) w) := by
  have hl1 := nB_len s.data.toList
  have hl2 := dB_len s.data.toList
  rw [← Lib.size_eq] at hl1 hl2
  have HW : ∀ W, Calls Tryz.prog 104 #[.string s] W (WriR ⟨(nB s.data.toList).toArray⟩ ⟨(dB s.data.toList).toArray⟩ W) := fun W => written_any s hs W
  have HS : ∀ W, Calls Tryz.prog 106 #[.string s] W (IntR (slS s.data.toList) W) := fun W => slash_any s hs W
  have X12 := fun h => digits_n (nB s.data.toList) h (by omega)
  have Y12 := fun h => digits_n (dB s.data.toList) h (by omega)
  have XR := fun h => digits_r (nB s.data.toList) h (by omega) _ rfl
  have YR := fun h g hg => digits_r (dB s.data.toList) h (by omega) g hg
  have HG : chk (nB s.data.toList) = 0 → chk (dB s.data.toList) = 0 → ∀ W, Calls Tryz.prog 107 #[.string ⟨(nB s.data.toList).toArray⟩, .string ⟨(dB s.data.toList).toArray⟩] W
      (GcdR ⟨(Lib.itoa ((Nat.gcd (num (nB s.data.toList)).natAbs (num (dB s.data.toList)).natAbs : Nat) : Int)).toArray⟩ W) := fun hx hy W => by
    have := refGcd_any ⟨(nB s.data.toList).toArray⟩ ⟨(dB s.data.toList).toArray⟩ (by show (nB s.data.toList).length ≤ _; omega) (by show (dB s.data.toList).length ≤ _; omega) W
    rw [show (⟨(nB s.data.toList).toArray⟩ : ByteArray).data.toList = nB s.data.toList from rfl, show (⟨(dB s.data.toList).toArray⟩ : ByteArray).data.toList = dB s.data.toList from rfl, gcS_ok (by unfold bothE; rw [if_pos hx]; exact hy)] at this
    exact this
  have hgt := itoa_is_one (Nat.gcd (num (nB s.data.toList)).natAbs (num (dB s.data.toList)).natAbs)
  have HE := @chkR_eq s.data.toList
  have hod := okD_parts (dB s.data.toList)
  cases hh : hB s.data.toList
  · have hd := dB_plain hh
    have hsl := slS_no hh
    have hy : chk (dB s.data.toList) = 0 := by rw [hd]; exact chk_one
    have hg : ngB (dB s.data.toList) = false := by rw [hd]; rfl
    have hz : ((⟨(dB s.data.toList).toArray⟩ : ByteArray).toList == [48]) = false := by rw [hd]; decide +kernel
    have ho : ((⟨(dB s.data.toList).toArray⟩ : ByteArray).toList == [49]) = true := by rw [hd]; decide +kernel
    have hy2 := YR (by rw [hy]; decide) _ hg
    rcases chk_cases (nB s.data.toList) with hx | hx | hx
    · have e := HE hx hy hh rfl rfl
      simp at e
      rw [e]
      have g1 : Nat.gcd (num (nB s.data.toList)).natAbs (num (dB s.data.toList)).natAbs = 1 := by rw [hd, num_one]; simp
      exact cF0 s _ _ _ _ _ _ _ w HW HS hsl (XR (by rw [hx]; decide)) hy2 (bod_ok hx) (bod_ok hy) hz ho (HG hx hy) (by rw [hgt]; exact decide_eq_true g1)
    · have e := HE hx hy hh rfl rfl
      simp at e
      rw [e]
      exact cF12 s _ _ _ _ w HW HS hsl (X12 hx) hy2 (bod_ok hy) hz ho
    · have e := HE hx hy hh rfl rfl
      simp at e
      rw [e]
      exact cF14 s _ _ _ _ _ _ w HW HS hsl (XR (by rw [hx]; decide)) hy2 (bod_big hx) (bod_ok hy) hz ho
  · have hsl := slS_yes hh
    obtain ⟨g, hg⟩ : ∃ g, ngB (dB s.data.toList) = g := ⟨_, rfl⟩
    obtain ⟨z, hz⟩ : ∃ z, ((⟨(dB s.data.toList).toArray⟩ : ByteArray).toList == [48]) = z := ⟨_, rfl⟩
    obtain ⟨o, ho⟩ : ∃ o, ((⟨(dB s.data.toList).toArray⟩ : ByteArray).toList == [49]) = o := ⟨_, rfl⟩
    rw [hg, hz, ho] at hod
    rcases chk_cases (nB s.data.toList) with hx | hx | hx <;> rcases chk_cases (dB s.data.toList) with hy | hy | hy
    · cases g
      · cases z
        · cases o
          · by_cases hg1 : Nat.gcd (num (nB s.data.toList)).natAbs (num (dB s.data.toList)).natAbs = 1
            · have e := HE hx hy hh hod hg1
              simp at e
              rw [e]
              exact cT0_0_g s _ _ _ _ _ _ _ w HW HS hsl (XR (by rw [hx]; decide)) (YR (by rw [hy]; decide) _ hg) (bod_ok hx) (bod_ok hy) hz ho (HG hx hy) (by rw [hgt]; exact decide_eq_true hg1)
            · have e := HE hx hy hh hod rfl
              simp [hg1] at e
              rw [e]
              exact cT0_0_h s _ _ _ _ _ _ _ w HW HS hsl (XR (by rw [hx]; decide)) (YR (by rw [hy]; decide) _ hg) (bod_ok hx) (bod_ok hy) hz ho (HG hx hy) (by rw [hgt]; exact decide_eq_false hg1)
          · have e := HE hx hy hh hod rfl
            simp at e
            rw [e]
            exact cT0_0_o s _ _ _ _ _ _ w HW HS hsl (XR (by rw [hx]; decide)) (YR (by rw [hy]; decide) _ hg) (bod_ok hx) (bod_ok hy) hz ho
        · have e := HE hx hy hh hod rfl
          simp at e
          rw [e]
          exact cT0_0_z s _ _ _ _ _ _ w HW HS hsl (XR (by rw [hx]; decide)) (YR (by rw [hy]; decide) _ hg) (bod_ok hx) (bod_ok hy) hz
      · have e := HE hx hy hh hod rfl
        simp at e
        rw [e]
        exact cT0_0_n s _ _ _ _ _ _ w HW HS hsl (XR (by rw [hx]; decide)) (YR (by rw [hy]; decide) _ hg) (bod_ok hx) (bod_ok hy)
    · have e := HE hx hy hh hod rfl
      simp at e
      rw [e]
      exact cT0_12 s _ _ _ _ _ w HW HS hsl (XR (by rw [hx]; decide)) (Y12 hy) (bod_ok hx)
    · cases g
      · cases z
        · cases o
          · have e := HE hx hy hh hod rfl
            simp at e
            rw [e]
            exact cT0_14_k s _ _ _ _ _ _ w HW HS hsl (XR (by rw [hx]; decide)) (YR (by rw [hy]; decide) _ hg) (bod_ok hx) (bod_big hy) hz ho
          · have e := HE hx hy hh hod rfl
            simp at e
            rw [e]
            exact cT0_14_o s _ _ _ _ _ _ w HW HS hsl (XR (by rw [hx]; decide)) (YR (by rw [hy]; decide) _ hg) (bod_ok hx) (bod_big hy) hz ho
        · have e := HE hx hy hh hod rfl
          simp at e
          rw [e]
          exact cT0_14_z s _ _ _ _ _ _ w HW HS hsl (XR (by rw [hx]; decide)) (YR (by rw [hy]; decide) _ hg) (bod_ok hx) (bod_big hy) hz
      · have e := HE hx hy hh hod rfl
        simp at e
        rw [e]
        exact cT0_14_n s _ _ _ _ _ _ w HW HS hsl (XR (by rw [hx]; decide)) (YR (by rw [hy]; decide) _ hg) (bod_ok hx) (bod_big hy)
    · cases g
      · cases z
        · cases o
          · have e := HE hx hy hh hod rfl
            simp at e
            rw [e]
            exact cT12_0_k s _ _ _ _ w HW HS hsl (X12 hx) (YR (by rw [hy]; decide) _ hg) (bod_ok hy) hz ho
          · have e := HE hx hy hh hod rfl
            simp at e
            rw [e]
            exact cT12_0_o s _ _ _ _ w HW HS hsl (X12 hx) (YR (by rw [hy]; decide) _ hg) (bod_ok hy) hz ho
        · have e := HE hx hy hh hod rfl
          simp at e
          rw [e]
          exact cT12_0_z s _ _ _ _ w HW HS hsl (X12 hx) (YR (by rw [hy]; decide) _ hg) (bod_ok hy) hz
      · have e := HE hx hy hh hod rfl
        simp at e
        rw [e]
        exact cT12_0_n s _ _ _ _ w HW HS hsl (X12 hx) (YR (by rw [hy]; decide) _ hg) (bod_ok hy)
    · have e := HE hx hy hh hod rfl
      simp at e
      rw [e]
      exact cT12_12 s _ _ _ w HW HS hsl (X12 hx) (Y12 hy)
    · cases g
      · cases z
        · cases o
          · have e := HE hx hy hh hod rfl
            simp at e
            rw [e]
            exact cT12_14_k s _ _ _ _ w HW HS hsl (X12 hx) (YR (by rw [hy]; decide) _ hg) (bod_big hy) hz ho
          · have e := HE hx hy hh hod rfl
            simp at e
            rw [e]
            exact cT12_14_o s _ _ _ _ w HW HS hsl (X12 hx) (YR (by rw [hy]; decide) _ hg) (bod_big hy) hz ho
        · have e := HE hx hy hh hod rfl
          simp at e
          rw [e]
          exact cT12_14_z s _ _ _ _ w HW HS hsl (X12 hx) (YR (by rw [hy]; decide) _ hg) (bod_big hy) hz
      · have e := HE hx hy hh hod rfl
        simp at e
        rw [e]
        exact cT12_14_n s _ _ _ _ w HW HS hsl (X12 hx) (YR (by rw [hy]; decide) _ hg) (bod_big hy)
    · cases g
      · cases z
        · cases o
          · have e := HE hx hy hh hod rfl
            simp at e
            rw [e]
            exact cT14_0_k s _ _ _ _ _ _ w HW HS hsl (XR (by rw [hx]; decide)) (YR (by rw [hy]; decide) _ hg) (bod_big hx) (bod_ok hy) hz ho
          · have e := HE hx hy hh hod rfl
            simp at e
            rw [e]
            exact cT14_0_o s _ _ _ _ _ _ w HW HS hsl (XR (by rw [hx]; decide)) (YR (by rw [hy]; decide) _ hg) (bod_big hx) (bod_ok hy) hz ho
        · have e := HE hx hy hh hod rfl
          simp at e
          rw [e]
          exact cT14_0_z s _ _ _ _ _ _ w HW HS hsl (XR (by rw [hx]; decide)) (YR (by rw [hy]; decide) _ hg) (bod_big hx) (bod_ok hy) hz
      · have e := HE hx hy hh hod rfl
        simp at e
        rw [e]
        exact cT14_0_n s _ _ _ _ _ _ w HW HS hsl (XR (by rw [hx]; decide)) (YR (by rw [hy]; decide) _ hg) (bod_big hx) (bod_ok hy)
    · have e := HE hx hy hh hod rfl
      simp at e
      rw [e]
      exact cT14_12 s _ _ _ _ _ w HW HS hsl (XR (by rw [hx]; decide)) (Y12 hy) (bod_big hx)
    · cases g
      · cases z
        · cases o
          · have e := HE hx hy hh hod rfl
            simp at e
            rw [e]
            exact cT14_14_k s _ _ _ _ _ _ w HW HS hsl (XR (by rw [hx]; decide)) (YR (by rw [hy]; decide) _ hg) (bod_big hx) (bod_big hy) hz ho
          · have e := HE hx hy hh hod rfl
            simp at e
            rw [e]
            exact cT14_14_o s _ _ _ _ _ _ w HW HS hsl (XR (by rw [hx]; decide)) (YR (by rw [hy]; decide) _ hg) (bod_big hx) (bod_big hy) hz ho
        · have e := HE hx hy hh hod rfl
          simp at e
          rw [e]
          exact cT14_14_z s _ _ _ _ _ _ w HW HS hsl (XR (by rw [hx]; decide)) (YR (by rw [hy]; decide) _ hg) (bod_big hx) (bod_big hy) hz
      · have e := HE hx hy hh hod rfl
        simp at e
        rw [e]
        exact cT14_14_n s _ _ _ _ _ _ w HW HS hsl (XR (by rw [hx]; decide)) (YR (by rw [hy]; decide) _ hg) (bod_big hx) (bod_big hy)
end Go.Proofs.YtbfimfjhdbpenaaGreatDoor
/- The walks of the reference of layer 2: Make. -/
namespace Go.Proofs.YtbfimfjhdbpenaaGreatDoor
open Go Go.RowKit
section
variable {x y : Int} (hx : x.natAbs < lim) (hy : y.natAbs < lim)
include hx hy
end
end Go.Proofs.YtbfimfjhdbpenaaGreatDoor
/- The walks of the reference of layer 2: Great, Four. -/
namespace Go.Proofs.YtbfimfjhdbpenaaGreatDoor
open Go Go.RowKit
end Go.Proofs.YtbfimfjhdbpenaaGreatDoor
/- Joined: RatAa, RatAb. -/
/- The walks of layer 2: Check, Add, Sub, Mul, Div, Compare on texts. -/
namespace Go.Proofs.YtbfimfjhdbpenaaGreatDoor
open Go Go.RowKit
set_option maxRecDepth 100000 in
set_option maxHeartbeats 1600000 in
theorem rcheck_any (s : ByteArray) (hs : s.size ≤ 1048576) (w : World) (hv : VarR w) :
    Calls Tryz.prog 54 #[.string s] w (IntB (chkR s.data.toList) w) := by
  have HP := Lib.hid (parse_rat s hs w hv)
  generalize (⟨(parS s.data.toList).1.toArray⟩ : ByteArray) = N at *
  generalize (⟨(parS s.data.toList).2.toArray⟩ : ByteArray) = D at *
  generalize chkR s.data.toList = c at *
  clear hv hs
  go_enter Tryz.func54, Tryz.ntmps54
  go_wp2_with (go_at_call 96; refine HP.out.mono ?_; rintro e w1 ⟨rfl, b1⟩)
  go_ret
  exact ⟨rfl, b1.alloc b1.size _⟩
end Go.Proofs.YtbfimfjhdbpenaaGreatDoor
/- The walks of layer 2: Compare. -/
namespace Go.Proofs.YtbfimfjhdbpenaaGreatDoor
open Go Go.RowKit
end Go.Proofs.YtbfimfjhdbpenaaGreatDoor

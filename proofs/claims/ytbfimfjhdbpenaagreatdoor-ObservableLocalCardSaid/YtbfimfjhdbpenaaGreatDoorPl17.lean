/- Joined: RatS, RatE, RatT, RatU, RatW, RatG, RatAa. -/
import Derived.Test.YtbfimfjhdbpenaaGreatDoorPl13
import Derived.Test.YtbfimfjhdbpenaaGreatDoorPl16
import Derived.Deep.RegionLaw
import Derived.Deep.RegionHeld3
import Derived.StillTailTactics
import Derived.BigRegion
/- The walks of layer 2: products by a closure that keeps the first error. -/
namespace Go.Proofs.YtbfimfjhdbpenaaGreatDoor
open Go Go.RowKit
def StE (r : ByteArray) (c : Int) (w : World) (e : Ending) (w' : World) : Prop := e = .returned (.tuple #[.string r, .int .i64 c]) ∧ Below w.heap.size w w'
def TimR (r : ByteArray) (q : Nat) (c : Int) (w : World) (e : Ending) (w' : World) : Prop := e = .returned (.string r) ∧ Below w.heap.size (w.setCell ⟨q, 0, none⟩ (.int .i64 c)) w'
theorem below_set {N : Nat} {w w1 : World} (h : Below N w w1) (p : Addr) (v : Value) : Below N (w.setCell p v) (w1.setCell p v) :=
  ⟨h.os, h.tape, h.output, by simp only [World.setCell, Array.size_modify]; exact h.size, fun k hk => by simp only [World.setCell, Array.getElem?_modify, h.block k hk]⟩
theorem set_size (w : World) (p : Addr) (v : Value) : (w.setCell p v).heap.size = w.heap.size := by simp only [World.setCell, Array.size_modify]
theorem tim_below {N q : Nat} {w0 w w' : World} {v : Value} (D : Below N w0 w) (hN : N ≤ w.heap.size) (hq : N ≤ q) (b : Below w.heap.size (w.setCell ⟨q, 0, none⟩ v) w') : Below N w0 w' :=
  (D.setCell (p := ⟨q, 0, none⟩) hq v).trans (b.mono hN)
theorem tim_cell {q : Nat} {w w' : World} {u v : Value} (h : w.cell? ⟨q, 0, none⟩ = some u) (b : Below w.heap.size (w.setCell ⟨q, 0, none⟩ v) w') : w'.cell? ⟨q, 0, none⟩ = some v :=
  (b.cell (p := ⟨q, 0, none⟩) (World.block_lt_of_cell? w _ h)).trans (World.cell?_setCell_same _ _ _ h)
theorem tim_far {q r o : Nat} {w w' : World} {u v : Value} (h : w.cell? ⟨r, o, none⟩ = some u) (hne : q ≠ r) (b : Below w.heap.size (w.setCell ⟨q, 0, none⟩ v) w') : w'.cell? ⟨r, o, none⟩ = some u :=
  (b.cell (p := ⟨r, o, none⟩) (World.block_lt_of_cell? w _ h)).trans ((World.cell?_setCell_far _ _ _ _ hne).trans h)
theorem tim_frozen {q r o : Nat} {w w' : World} {u v : Value} (h : w.cell? ⟨r, o, none⟩ = some u) (hf : w.frozen? ⟨r, o, none⟩ = false) (b : Below w.heap.size (w.setCell ⟨q, 0, none⟩ v) w') : w'.frozen? ⟨r, o, none⟩ = false :=
  (b.frozen (p := ⟨r, o, none⟩) (World.block_lt_of_cell? w _ h)).trans ((by rw [World.frozen?_setCell] : (w.setCell ⟨q, 0, none⟩ v).frozen? ⟨r, o, none⟩ = w.frozen? ⟨r, o, none⟩).trans hf)
def OrR (c : Int) (w : World) (e : Ending) (w' : World) : Prop := e = .returned (.int .i64 c) ∧ w = w'
set_option maxRecDepth 100000 in
set_option maxHeartbeats 1600000 in
theorem rtimes_any (s t r : ByteArray) (c c2 c3 : Int) (hc : (if c = 0 then c2 else c) = c3) (p q : Nat) (w : World) (hv : VarT w)
    (hp : w.cell? ⟨p, 0, none⟩ = some (.pointer (some ⟨q, 0, none⟩))) (hq : w.cell? ⟨q, 0, none⟩ = some (.int .i64 c)) (hf : w.frozen? ⟨q, 0, none⟩ = false)
    (HM : ∀ W, VarT W → Calls Tryz.prog 116 #[.string s, .string t] W (StE r c2 W)) :
    Calls Tryz.prog 115 #[.string s, .string t, .pointer (some ⟨p, 0, none⟩)] w (TimR r q c3 w) := by
  have JM := Lib.hid HM
  have HV := Lib.hid hv
  have HO : Hid (∀ (W : World) (ty : TypeId), Calls Tryz.prog 117 #[.slice (some ⟨W.heap.size, 0, none⟩) 2 2] (W.alloc (.cells #[.int .i64 c, .int .i64 c2] ty)).drew (OrR c3 (W.alloc (.cells #[.int .i64 c, .int .i64 c2] ty)).drew)) := fun W ty => by
    subst hc
    refine or_any _ c c2 _ ?_ ?_
    · rw [World.cell?_drew, World.cell?_alloc_at _ _ _ _ rfl]; rfl
    · rw [World.cell?_drew, World.cell?_alloc_at _ _ _ _ rfl]; rfl
  have hpl := World.block_lt_of_cell? w _ hp
  have hql := World.block_lt_of_cell? w _ hq
  have HP := Lib.hid hp
  have HQ := Lib.hid hq
  have HF := Lib.hid hf
  clear HM hv hc hp hq hf
  go_enter Tryz.func115, Tryz.ntmps115
  go_wp2_with (go_at_call 116; refine (JM.out _ HV.out).mono ?_; rintro e w1 ⟨rfl, b⟩; have B1 := Lib.hid b; have hp1 := (b.cell (p := ⟨p, 0, none⟩) hpl).trans HP.out; have hq1 := (b.cell (p := ⟨q, 0, none⟩) hql).trans HQ.out; have hf1 := (b.frozen (p := ⟨q, 0, none⟩) hql).trans HF.out; have hs1 := b.size; clear b)
  have hql1 : q < w1.heap.size := Nat.lt_of_lt_of_le hql hs1
  have hpl1 : p < w1.heap.size := Nat.lt_of_lt_of_le hpl hs1
  have hp2 : ∀ o, (w1.alloc o).cell? ⟨p, 0, none⟩ = some (.pointer (some ⟨q, 0, none⟩)) := fun o => (World.cell?_alloc_lt _ _ ⟨p, 0, none⟩ hpl1).trans hp1
  have hq2 : ∀ o, (w1.alloc o).cell? ⟨q, 0, none⟩ = some (.int .i64 c) := fun o => (World.cell?_alloc_lt _ _ ⟨q, 0, none⟩ hql1).trans hq1
  have hf2 : ∀ o, (w1.alloc o).frozen? ⟨q, 0, none⟩ = false := fun o => (((Below.refl _ w1).alloc (Nat.le_refl _) o).frozen (p := ⟨q, 0, none⟩) hql1).trans hf1
  go_region_law ((go_simp; go_at_call 117; refine (HO.out _ _).mono ?_; rintro e w2 ⟨rfl, rfl⟩))
  all_goals
    go_wp2
    go_ret
    exact ⟨rfl, Below.drew ((below_set B1.out _ _).alloc (by rw [set_size]; exact hs1) _)⟩
theorem tim_row {q r : Nat} {w w' : World} {t : TypeId} {cs : Array Value} {v : Value} (h : w.heap[r]? = some (.cells cs t (0, 0))) (hne : q ≠ r) (b : Below w.heap.size (w.setCell ⟨q, 0, none⟩ v) w') : w'.heap[r]? = some (.cells cs t (0, 0)) := by
  rw [b.block r (lt_of_block h)]
  simp [World.setCell, Array.getElem?_modify, hne, h]
structure Clo (w0 : World) (p q : Nat) (c : Int) (w : World) : Prop where
  bl : Below w0.heap.size w0 w
  v : VarT w
  hp : w.cell? ⟨p, 0, none⟩ = some (.pointer (some ⟨q, 0, none⟩))
  hq : w.cell? ⟨q, 0, none⟩ = some (.int .i64 c)
  hf : w.frozen? ⟨q, 0, none⟩ = false
theorem Clo.drew {w0 : World} {p q : Nat} {c : Int} {w : World} (h : Clo w0 p q c w) : Clo w0 p q c w.drew :=
  ⟨Below.drew h.bl, ⟨h.v.sz, h.v.tab⟩, h.hp, h.hq, h.hf⟩
theorem Clo.call {w0 : World} {p q : Nat} {c : Int} {w : World} (h : Clo w0 p q c w) (s t r : ByteArray) (c2 c3 : Int) (hc : (if c = 0 then c2 else c) = c3)
    (HM : ∀ W, VarT W → Calls Tryz.prog 116 #[.string s, .string t] W (StE r c2 W)) :
    Calls Tryz.prog 115 #[.string s, .string t, .pointer (some ⟨p, 0, none⟩)] w (TimR r q c3 w) :=
  rtimes_any s t r c c2 c3 hc p q w h.v h.hp h.hq h.hf HM
theorem Clo.after {w0 : World} {p q : Nat} {c c3 : Int} {w w' : World} (h : Clo w0 p q c w) (hn : w0.heap.size ≤ q) (hne : q ≠ p) (hv : VarT w0) (b : Below w.heap.size (w.setCell ⟨q, 0, none⟩ (.int .i64 c3)) w') : Clo w0 p q c3 w' :=
  have B := tim_below h.bl h.bl.size hn b
  ⟨B, hv.below B, tim_far h.hp hne b, tim_cell h.hq b, tim_frozen h.hq h.hf b⟩
theorem multiplier_any (q : Nat) (w : World) :
    Calls Tryz.prog 78 #[.pointer (some ⟨q, 0, none⟩)] w fun e w' => e = .returned (.func (.func 115) #[] #[.pointer (some ⟨w.heap.size, 0, none⟩)]) ∧ w.alloc (.cells #[.pointer (some ⟨q, 0, none⟩)] 116) = w' := by
  have hmf : ∀ fn first cap w, (Instr.makeFunc fn first cap).run Tryz.prog w = .ok (.func fn first cap) w := fun _ _ _ _ => rfl
  go_enter Tryz.func78, Tryz.ntmps78
  go_wp2
  go_ret
  exact ⟨rfl, rfl⟩
theorem rows5 (w : World) (a b c d : Value) (t te tp : TypeId) (hv : VarT w) {w5 : World}
    (h5 : (((((w.alloc (.cells #[a, b] t (0, 0))).alloc (.cells #[c, d] t (0, 0))).alloc (.cells #[.string ⟨#[]⟩, .string ⟨#[]⟩] t (0, 0))).alloc (.cells #[.int .i64 0] te (0, 0))).alloc (.cells #[.pointer (some ⟨w.heap.size + 1 + 1 + 1, 0, none⟩)] tp (0, 0))) = w5) :
    Clo w (w.heap.size + 1 + 1 + 1 + 1) (w.heap.size + 1 + 1 + 1) 0 w5 ∧
    w5.cell? ⟨w.heap.size, 0, none⟩ = some a ∧ w5.cell? ⟨w.heap.size, 1, none⟩ = some b ∧ w5.cell? ⟨w.heap.size + 1, 0, none⟩ = some c ∧ w5.cell? ⟨w.heap.size + 1, 1, none⟩ = some d ∧
    w5.heap[w.heap.size + 1 + 1]? = some (.cells #[.string ⟨#[]⟩, .string ⟨#[]⟩] t (0, 0)) := by
  have hh : w5.heap = (((((w.heap.push (.cells #[a, b] t (0, 0))).push (.cells #[c, d] t (0, 0))).push (.cells #[.string ⟨#[]⟩, .string ⟨#[]⟩] t (0, 0))).push (.cells #[.int .i64 0] te (0, 0))).push (.cells #[.pointer (some ⟨w.heap.size + 1 + 1 + 1, 0, none⟩)] tp (0, 0))) := by subst h5; rfl
  have B : Below w.heap.size w w5 := by
    subst h5
    exact (((((Below.refl _ w).alloc (Nat.le_refl _) _).alloc (by simp) _).alloc (by simp; omega) _).alloc (by simp; omega) _).alloc (by simp; omega) _
  clear h5
  have g0 : w5.heap[w.heap.size]? = some (.cells #[a, b] t (0, 0)) := by
    rw [hh]; simp only [Array.getElem?_push, Array.size_push]
    rw [if_neg (by omega), if_neg (by omega), if_neg (by omega), if_neg (by omega), if_pos trivial]
  have g1 : w5.heap[w.heap.size + 1]? = some (.cells #[c, d] t (0, 0)) := by
    rw [hh]; simp only [Array.getElem?_push, Array.size_push]
    rw [if_neg (by omega), if_neg (by omega), if_neg (by omega), if_pos trivial]
  have g2 : w5.heap[w.heap.size + 1 + 1]? = some (.cells #[.string ⟨#[]⟩, .string ⟨#[]⟩] t (0, 0)) := by
    rw [hh]; simp only [Array.getElem?_push, Array.size_push]
    rw [if_neg (by omega), if_neg (by omega), if_pos trivial]
  have g3 : w5.heap[w.heap.size + 1 + 1 + 1]? = some (.cells #[.int .i64 0] te (0, 0)) := by
    rw [hh]; simp only [Array.getElem?_push, Array.size_push]
    rw [if_neg (by omega), if_pos trivial]
  have g4 : w5.heap[w.heap.size + 1 + 1 + 1 + 1]? = some (.cells #[.pointer (some ⟨w.heap.size + 1 + 1 + 1, 0, none⟩)] tp (0, 0)) := by
    rw [hh]; simp only [Array.getElem?_push, Array.size_push]
    rw [if_pos trivial]
  clear hh
  obtain ⟨k1, k2, _, _⟩ := row2 g0
  obtain ⟨k3, k4, _, _⟩ := row2 g1
  refine ⟨⟨B, hv.below B, ?_, ?_, ?_⟩, k1, k2, k3, k4, g2⟩
  · simp only [World.cell?, g4]; rfl
  · simp only [World.cell?, g3]; rfl
  · simp only [World.frozen?, g3]; rfl
end Go.Proofs.YtbfimfjhdbpenaaGreatDoor
/- Joined: RatE, RatF. -/
/- The walks of layer 2: parse. -/
namespace Go.Proofs.YtbfimfjhdbpenaaGreatDoor
open Go Go.RowKit
def parS (l : List UInt8) : List UInt8 × List UInt8 := if chkR l = 0 then (nB l, dB l) else ([], [])
def PrsR (n d : ByteArray) (c : Int) (w : World) (e : Ending) (w' : World) : Prop := e = .returned (.tuple #[.agg #[.string n, .string d], .int .i64 c]) ∧ Below w.heap.size w w'
theorem cut_parts (l : List UInt8) : (Lib.cut l [47]).1 = nB l ∧ (Lib.cut l [47]).2.2 = hB l ∧ (hB l = true → (Lib.cut l [47]).2.1 = dB l) ∧ (hB l = false → (Lib.cut l [47]).2.1 = []) := by
  rw [spl_cut]
  unfold nB hB dB
  cases h : spl l with
  | none => exact ⟨rfl, rfl, (by intro e; cases e), fun _ => rfl⟩
  | some p => exact ⟨rfl, rfl, fun _ => rfl, (by intro e; cases e)⟩
theorem row_drewN {w : World} {r : Nat} {cs : Array Value} {t : TypeId} (h : w.heap[r]? = some (.cells cs t (0, 0))) (k : Nat) : (w.drewN k).heap[r]? = some (.cells cs t (0, 0)) := h
theorem results_cell_tmp {P : Program} {fn : Func} {p q : Tmp} {ty : TypeId} (h : fn.results = #[.cell p ty, .tmp q]) (tmps : Array Value) (w : World) (g : Nat) (t : TypeId) (cs : Array Value) (fr : Nat × Nat) (d : TypeDesc) (u : Value) (hq : tmps.getD q undef = u)
    (hp : tmps.getD p undef = .pointer (some ⟨g, 0, none⟩)) (hg : w.heap[g]? = some (.cells cs t fr))
    (hu : P.underlying ty = some d) (hd : (match d with | .struct _ | .array _ _ => true | _ => false) = true) (hi : (P.info? ty).map (·.size) = some cs.size) :
    (results fn tmps).run P w = .ok (.tuple #[.agg cs, u]) w := by
  subst hq
  have hp' : tmps[p]?.getD undef = .pointer (some ⟨g, 0, none⟩) := by simpa using hp
  simp [results, h, hp', asAddr, run_loadVar_row w g t ty cs fr d hg hu hd hi]
def CutR (n b : ByteArray) (h : Bool) (w : World) (e : Ending) (w' : World) : Prop := e = .returned (.tuple #[.string n, .string b, .bool h]) ∧ ∃ k, w' = w.drewN k
def IntR (c : Int) (w : World) (e : Ending) (w' : World) : Prop := e = .returned (.int .i64 c) ∧ w = w'
def BooR (c : Bool) (w : World) (e : Ending) (w' : World) : Prop := e = .returned (.bool c) ∧ w = w'
set_option maxRecDepth 100000 in
set_option maxHeartbeats 1600000 in
theorem pF12 (s N E : ByteArray) (w : World) (hv : VarR w)
    (HC : ∀ W, VarR W → Calls Tryz.prog 135 #[.string s, .string ⟨#[47]⟩] W (CutR N E false W))
    (HX : ∀ W, Calls Tryz.prog 118 #[.string N] W (IntR 12 W)) (HY : ∀ W, Calls Tryz.prog 118 #[.string ⟨#[49]⟩] W (IntR 0 W)) : Calls Tryz.prog 96 #[.string s] w (PrsR ⟨#[]⟩ ⟨#[]⟩ 12 w) := by
  have HB := Lib.hid ((Below.refl _ w).alloc (Nat.le_refl _) (.cells #[.string ⟨#[]⟩, .string ⟨#[]⟩] 111))
  have HR := heap_alloc_new w (.cells #[.string ⟨#[]⟩, .string ⟨#[]⟩] 111)
  have HV := Lib.hid hv
  have JC := Lib.hid HC
  have JX := Lib.hid HX
  have JY := Lib.hid HY
  clear hv HC HX HY
  go_enter Tryz.func96, Tryz.ntmps96
  go_wp2_with (first
    | (go_at_call 135; refine (JC.out _ (HV.out.below HB.out)).mono ?_; rintro e w1 ⟨rfl, k, rfl⟩; have b1 := below_drewN HB.out k; have R1 := row_drewN HR k; obtain ⟨k1, k2, k3, k4⟩ := row2 R1)
    | (go_at_call 118; (with_reducible refine (JX.out _).mono ?_); rintro e w2 ⟨rfl, rfl⟩)
    | (go_at_call 118; (with_reducible refine (JY.out _).mono ?_); rintro e w3 ⟨rfl, rfl⟩))
  refine bodyPost_ret (v := .tuple #[.agg #[.string ⟨#[]⟩, .string ⟨#[]⟩], .int .i64 12]) (results_cell_tmp rfl _ _ w.heap.size 111 #[.string ⟨#[]⟩, .string ⟨#[]⟩] (0, 0) _ (.int .i64 12) rfl rfl (sc_row _ _ R1) Tryz.underlying111 (by kernel_rfl) (by kernel_rfl)) rfl ⟨rfl, ?_⟩
  exact (b1.setCell (p := ⟨w.heap.size, 0, none⟩) (Nat.le_refl _) _).setCell (p := ⟨w.heap.size, 1, none⟩) (Nat.le_refl _) _
set_option maxRecDepth 100000 in
set_option maxHeartbeats 1600000 in
theorem pF14 (s N E : ByteArray) (w : World) (hv : VarR w)
    (HC : ∀ W, VarR W → Calls Tryz.prog 135 #[.string s, .string ⟨#[47]⟩] W (CutR N E false W))
    (HX : ∀ W, Calls Tryz.prog 118 #[.string N] W (IntR 14 W)) (HY : ∀ W, Calls Tryz.prog 118 #[.string ⟨#[49]⟩] W (IntR 0 W)) : Calls Tryz.prog 96 #[.string s] w (PrsR ⟨#[]⟩ ⟨#[]⟩ 14 w) := by
  have HB := Lib.hid ((Below.refl _ w).alloc (Nat.le_refl _) (.cells #[.string ⟨#[]⟩, .string ⟨#[]⟩] 111))
  have HR := heap_alloc_new w (.cells #[.string ⟨#[]⟩, .string ⟨#[]⟩] 111)
  have HV := Lib.hid hv
  have JC := Lib.hid HC
  have JX := Lib.hid HX
  have JY := Lib.hid HY
  clear hv HC HX HY
  go_enter Tryz.func96, Tryz.ntmps96
  go_wp2_with (first
    | (go_at_call 135; refine (JC.out _ (HV.out.below HB.out)).mono ?_; rintro e w1 ⟨rfl, k, rfl⟩; have b1 := below_drewN HB.out k; have R1 := row_drewN HR k; obtain ⟨k1, k2, k3, k4⟩ := row2 R1)
    | (go_at_call 118; (with_reducible refine (JX.out _).mono ?_); rintro e w2 ⟨rfl, rfl⟩)
    | (go_at_call 118; (with_reducible refine (JY.out _).mono ?_); rintro e w3 ⟨rfl, rfl⟩))
  refine bodyPost_ret (v := .tuple #[.agg #[.string ⟨#[]⟩, .string ⟨#[]⟩], .int .i64 14]) (results_cell_tmp rfl _ _ w.heap.size 111 #[.string ⟨#[]⟩, .string ⟨#[]⟩] (0, 0) _ (.int .i64 14) rfl rfl (sc_row _ _ R1) Tryz.underlying111 (by kernel_rfl) (by kernel_rfl)) rfl ⟨rfl, ?_⟩
  exact (b1.setCell (p := ⟨w.heap.size, 0, none⟩) (Nat.le_refl _) _).setCell (p := ⟨w.heap.size, 1, none⟩) (Nat.le_refl _) _
set_option maxRecDepth 100000 in
set_option maxHeartbeats 1600000 in
theorem pF0 (s N E : ByteArray) (w : World) (hv : VarR w)
    (HC : ∀ W, VarR W → Calls Tryz.prog 135 #[.string s, .string ⟨#[47]⟩] W (CutR N E false W))
    (HX : ∀ W, Calls Tryz.prog 118 #[.string N] W (IntR 0 W)) (HY : ∀ W, Calls Tryz.prog 118 #[.string ⟨#[49]⟩] W (IntR 0 W)) : Calls Tryz.prog 96 #[.string s] w (PrsR N ⟨#[49]⟩ 0 w) := by
  have HB := Lib.hid ((Below.refl _ w).alloc (Nat.le_refl _) (.cells #[.string ⟨#[]⟩, .string ⟨#[]⟩] 111))
  have HR := heap_alloc_new w (.cells #[.string ⟨#[]⟩, .string ⟨#[]⟩] 111)
  have HV := Lib.hid hv
  have JC := Lib.hid HC
  have JX := Lib.hid HX
  have JY := Lib.hid HY
  clear hv HC HX HY
  go_enter Tryz.func96, Tryz.ntmps96
  go_wp2_with (first
    | (go_at_call 135; refine (JC.out _ (HV.out.below HB.out)).mono ?_; rintro e w1 ⟨rfl, k, rfl⟩; have b1 := below_drewN HB.out k; have R1 := row_drewN HR k; obtain ⟨k1, k2, k3, k4⟩ := row2 R1)
    | (go_at_call 118; (with_reducible refine (JX.out _).mono ?_); rintro e w2 ⟨rfl, rfl⟩)
    | (go_at_call 118; (with_reducible refine (JY.out _).mono ?_); rintro e w3 ⟨rfl, rfl⟩))
  refine bodyPost_ret (v := .tuple #[.agg #[.string N, .string ⟨#[49]⟩], .int .i64 0]) (results_cell_tmp rfl _ _ w.heap.size 111 #[.string N, .string ⟨#[49]⟩] (0, 0) _ (.int .i64 0) rfl rfl (sc_row _ _ R1) Tryz.underlying111 (by kernel_rfl) (by kernel_rfl)) rfl ⟨rfl, ?_⟩
  exact (b1.setCell (p := ⟨w.heap.size, 0, none⟩) (Nat.le_refl _) _).setCell (p := ⟨w.heap.size, 1, none⟩) (Nat.le_refl _) _
set_option maxRecDepth 100000 in
set_option maxHeartbeats 1600000 in
theorem pT0_0_n (s N D : ByteArray) (w : World) (hv : VarR w)
    (HC : ∀ W, VarR W → Calls Tryz.prog 135 #[.string s, .string ⟨#[47]⟩] W (CutR N D true W))
    (HX : ∀ W, Calls Tryz.prog 118 #[.string N] W (IntR 0 W)) (HY : ∀ W, Calls Tryz.prog 118 #[.string D] W (IntR 0 W))
    (HO : ∀ W, Calls Tryz.prog 136 #[.string D] W (BooR false W)) : Calls Tryz.prog 96 #[.string s] w (PrsR ⟨#[]⟩ ⟨#[]⟩ 12 w) := by
  have HB := Lib.hid ((Below.refl _ w).alloc (Nat.le_refl _) (.cells #[.string ⟨#[]⟩, .string ⟨#[]⟩] 111))
  have HR := heap_alloc_new w (.cells #[.string ⟨#[]⟩, .string ⟨#[]⟩] 111)
  have HV := Lib.hid hv
  have JC := Lib.hid HC
  have JX := Lib.hid HX
  have JY := Lib.hid HY
  have JO := Lib.hid HO
  clear hv HC HX HY HO
  go_enter Tryz.func96, Tryz.ntmps96
  go_wp2_with (first
    | (go_at_call 135; refine (JC.out _ (HV.out.below HB.out)).mono ?_; rintro e w1 ⟨rfl, k, rfl⟩; have b1 := below_drewN HB.out k; have R1 := row_drewN HR k; obtain ⟨k1, k2, k3, k4⟩ := row2 R1)
    | (go_at_call 118; (with_reducible refine (JX.out _).mono ?_); rintro e w2 ⟨rfl, rfl⟩)
    | (go_at_call 118; (with_reducible refine (JY.out _).mono ?_); rintro e w3 ⟨rfl, rfl⟩)
    | (go_at_call 136; (with_reducible refine (JO.out _).mono ?_); rintro e w4 ⟨rfl, rfl⟩))
  refine bodyPost_ret (v := .tuple #[.agg #[.string ⟨#[]⟩, .string ⟨#[]⟩], .int .i64 12]) (results_cell_tmp rfl _ _ w.heap.size 111 #[.string ⟨#[]⟩, .string ⟨#[]⟩] (0, 0) _ (.int .i64 12) rfl rfl (sc_row _ _ R1) Tryz.underlying111 (by kernel_rfl) (by kernel_rfl)) rfl ⟨rfl, ?_⟩
  exact (b1.setCell (p := ⟨w.heap.size, 0, none⟩) (Nat.le_refl _) _).setCell (p := ⟨w.heap.size, 1, none⟩) (Nat.le_refl _) _
set_option maxRecDepth 100000 in
set_option maxHeartbeats 1600000 in
theorem pT0_0_g (s N D G : ByteArray) (w : World) (hv : VarR w)
    (HC : ∀ W, VarR W → Calls Tryz.prog 135 #[.string s, .string ⟨#[47]⟩] W (CutR N D true W))
    (HX : ∀ W, Calls Tryz.prog 118 #[.string N] W (IntR 0 W)) (HY : ∀ W, Calls Tryz.prog 118 #[.string D] W (IntR 0 W))
    (HO : ∀ W, Calls Tryz.prog 136 #[.string D] W (BooR true W))
    (HG : ∀ W, VarT W → Calls Tryz.prog 137 #[.string N, .string D] W (StrR G W)) (hG : (G.toList == [49]) = true) : Calls Tryz.prog 96 #[.string s] w (PrsR N D 0 w) := by
  have HB := Lib.hid ((Below.refl _ w).alloc (Nat.le_refl _) (.cells #[.string ⟨#[]⟩, .string ⟨#[]⟩] 111))
  have HR := heap_alloc_new w (.cells #[.string ⟨#[]⟩, .string ⟨#[]⟩] 111)
  have HV := Lib.hid hv
  have JC := Lib.hid HC
  have JX := Lib.hid HX
  have JY := Lib.hid HY
  have JO := Lib.hid HO
  have JG := Lib.hid HG
  clear hv HC HX HY HO HG
  go_enter Tryz.func96, Tryz.ntmps96
  go_wp2_with (first
    | (go_at_call 135; refine (JC.out _ (HV.out.below HB.out)).mono ?_; rintro e w1 ⟨rfl, k, rfl⟩; have b1 := below_drewN HB.out k; have R1 := row_drewN HR k; obtain ⟨k1, k2, k3, k4⟩ := row2 R1)
    | (go_at_call 118; (with_reducible refine (JX.out _).mono ?_); rintro e w2 ⟨rfl, rfl⟩)
    | (go_at_call 118; (with_reducible refine (JY.out _).mono ?_); rintro e w3 ⟨rfl, rfl⟩)
    | (go_at_call 136; (with_reducible refine (JO.out _).mono ?_); rintro e w4 ⟨rfl, rfl⟩)
    | (go_at_call 137; refine (JG.out _ (HV.out.below b1).t).mono ?_; rintro e w5 ⟨rfl, b⟩; have b2 := bt b1 b; have R2 := row_far R1 b; obtain ⟨j1, j2, j3, j4⟩ := row2 R2; clear b))
  refine bodyPost_ret (v := .tuple #[.agg #[.string N, .string D], .int .i64 0]) (results_cell_tmp rfl _ _ w.heap.size 111 #[.string N, .string D] (0, 0) _ (.int .i64 0) rfl rfl (sc_row _ _ R2) Tryz.underlying111 (by kernel_rfl) (by kernel_rfl)) rfl ⟨rfl, ?_⟩
  exact (b2.setCell (p := ⟨w.heap.size, 0, none⟩) (Nat.le_refl _) _).setCell (p := ⟨w.heap.size, 1, none⟩) (Nat.le_refl _) _
set_option maxRecDepth 100000 in
set_option maxHeartbeats 1600000 in
theorem pT0_0_h (s N D G : ByteArray) (w : World) (hv : VarR w)
    (HC : ∀ W, VarR W → Calls Tryz.prog 135 #[.string s, .string ⟨#[47]⟩] W (CutR N D true W))
    (HX : ∀ W, Calls Tryz.prog 118 #[.string N] W (IntR 0 W)) (HY : ∀ W, Calls Tryz.prog 118 #[.string D] W (IntR 0 W))
    (HO : ∀ W, Calls Tryz.prog 136 #[.string D] W (BooR true W))
    (HG : ∀ W, VarT W → Calls Tryz.prog 137 #[.string N, .string D] W (StrR G W)) (hG : (G.toList == [49]) = false) : Calls Tryz.prog 96 #[.string s] w (PrsR ⟨#[]⟩ ⟨#[]⟩ 12 w) := by
  have HB := Lib.hid ((Below.refl _ w).alloc (Nat.le_refl _) (.cells #[.string ⟨#[]⟩, .string ⟨#[]⟩] 111))
  have HR := heap_alloc_new w (.cells #[.string ⟨#[]⟩, .string ⟨#[]⟩] 111)
  have HV := Lib.hid hv
  have JC := Lib.hid HC
  have JX := Lib.hid HX
  have JY := Lib.hid HY
  have JO := Lib.hid HO
  have JG := Lib.hid HG
  clear hv HC HX HY HO HG
  go_enter Tryz.func96, Tryz.ntmps96
  go_wp2_with (first
    | (go_at_call 135; refine (JC.out _ (HV.out.below HB.out)).mono ?_; rintro e w1 ⟨rfl, k, rfl⟩; have b1 := below_drewN HB.out k; have R1 := row_drewN HR k; obtain ⟨k1, k2, k3, k4⟩ := row2 R1)
    | (go_at_call 118; (with_reducible refine (JX.out _).mono ?_); rintro e w2 ⟨rfl, rfl⟩)
    | (go_at_call 118; (with_reducible refine (JY.out _).mono ?_); rintro e w3 ⟨rfl, rfl⟩)
    | (go_at_call 136; (with_reducible refine (JO.out _).mono ?_); rintro e w4 ⟨rfl, rfl⟩)
    | (go_at_call 137; refine (JG.out _ (HV.out.below b1).t).mono ?_; rintro e w5 ⟨rfl, b⟩; have b2 := bt b1 b; have R2 := row_far R1 b; obtain ⟨j1, j2, j3, j4⟩ := row2 R2; clear b))
  refine bodyPost_ret (v := .tuple #[.agg #[.string ⟨#[]⟩, .string ⟨#[]⟩], .int .i64 12]) (results_cell_tmp rfl _ _ w.heap.size 111 #[.string ⟨#[]⟩, .string ⟨#[]⟩] (0, 0) _ (.int .i64 12) rfl rfl (sc_row _ _ R2) Tryz.underlying111 (by kernel_rfl) (by kernel_rfl)) rfl ⟨rfl, ?_⟩
  exact (b2.setCell (p := ⟨w.heap.size, 0, none⟩) (Nat.le_refl _) _).setCell (p := ⟨w.heap.size, 1, none⟩) (Nat.le_refl _) _
set_option maxRecDepth 100000 in
set_option maxHeartbeats 1600000 in
theorem pT0_12 (s N D : ByteArray) (w : World) (hv : VarR w)
    (HC : ∀ W, VarR W → Calls Tryz.prog 135 #[.string s, .string ⟨#[47]⟩] W (CutR N D true W))
    (HX : ∀ W, Calls Tryz.prog 118 #[.string N] W (IntR 0 W)) (HY : ∀ W, Calls Tryz.prog 118 #[.string D] W (IntR 12 W)) : Calls Tryz.prog 96 #[.string s] w (PrsR ⟨#[]⟩ ⟨#[]⟩ 12 w) := by
  have HB := Lib.hid ((Below.refl _ w).alloc (Nat.le_refl _) (.cells #[.string ⟨#[]⟩, .string ⟨#[]⟩] 111))
  have HR := heap_alloc_new w (.cells #[.string ⟨#[]⟩, .string ⟨#[]⟩] 111)
  have HV := Lib.hid hv
  have JC := Lib.hid HC
  have JX := Lib.hid HX
  have JY := Lib.hid HY
  clear hv HC HX HY
  go_enter Tryz.func96, Tryz.ntmps96
  go_wp2_with (first
    | (go_at_call 135; refine (JC.out _ (HV.out.below HB.out)).mono ?_; rintro e w1 ⟨rfl, k, rfl⟩; have b1 := below_drewN HB.out k; have R1 := row_drewN HR k; obtain ⟨k1, k2, k3, k4⟩ := row2 R1)
    | (go_at_call 118; (with_reducible refine (JX.out _).mono ?_); rintro e w2 ⟨rfl, rfl⟩)
    | (go_at_call 118; (with_reducible refine (JY.out _).mono ?_); rintro e w3 ⟨rfl, rfl⟩))
  refine bodyPost_ret (v := .tuple #[.agg #[.string ⟨#[]⟩, .string ⟨#[]⟩], .int .i64 12]) (results_cell_tmp rfl _ _ w.heap.size 111 #[.string ⟨#[]⟩, .string ⟨#[]⟩] (0, 0) _ (.int .i64 12) rfl rfl (sc_row _ _ R1) Tryz.underlying111 (by kernel_rfl) (by kernel_rfl)) rfl ⟨rfl, ?_⟩
  exact (b1.setCell (p := ⟨w.heap.size, 0, none⟩) (Nat.le_refl _) _).setCell (p := ⟨w.heap.size, 1, none⟩) (Nat.le_refl _) _
set_option maxRecDepth 100000 in
set_option maxHeartbeats 1600000 in
theorem pT0_14_n (s N D : ByteArray) (w : World) (hv : VarR w)
    (HC : ∀ W, VarR W → Calls Tryz.prog 135 #[.string s, .string ⟨#[47]⟩] W (CutR N D true W))
    (HX : ∀ W, Calls Tryz.prog 118 #[.string N] W (IntR 0 W)) (HY : ∀ W, Calls Tryz.prog 118 #[.string D] W (IntR 14 W))
    (HO : ∀ W, Calls Tryz.prog 136 #[.string D] W (BooR false W)) : Calls Tryz.prog 96 #[.string s] w (PrsR ⟨#[]⟩ ⟨#[]⟩ 12 w) := by
  have HB := Lib.hid ((Below.refl _ w).alloc (Nat.le_refl _) (.cells #[.string ⟨#[]⟩, .string ⟨#[]⟩] 111))
  have HR := heap_alloc_new w (.cells #[.string ⟨#[]⟩, .string ⟨#[]⟩] 111)
  have HV := Lib.hid hv
  have JC := Lib.hid HC
  have JX := Lib.hid HX
  have JY := Lib.hid HY
  have JO := Lib.hid HO
  clear hv HC HX HY HO
  go_enter Tryz.func96, Tryz.ntmps96
  go_wp2_with (first
    | (go_at_call 135; refine (JC.out _ (HV.out.below HB.out)).mono ?_; rintro e w1 ⟨rfl, k, rfl⟩; have b1 := below_drewN HB.out k; have R1 := row_drewN HR k; obtain ⟨k1, k2, k3, k4⟩ := row2 R1)
    | (go_at_call 118; (with_reducible refine (JX.out _).mono ?_); rintro e w2 ⟨rfl, rfl⟩)
    | (go_at_call 118; (with_reducible refine (JY.out _).mono ?_); rintro e w3 ⟨rfl, rfl⟩)
    | (go_at_call 136; (with_reducible refine (JO.out _).mono ?_); rintro e w4 ⟨rfl, rfl⟩))
  refine bodyPost_ret (v := .tuple #[.agg #[.string ⟨#[]⟩, .string ⟨#[]⟩], .int .i64 12]) (results_cell_tmp rfl _ _ w.heap.size 111 #[.string ⟨#[]⟩, .string ⟨#[]⟩] (0, 0) _ (.int .i64 12) rfl rfl (sc_row _ _ R1) Tryz.underlying111 (by kernel_rfl) (by kernel_rfl)) rfl ⟨rfl, ?_⟩
  exact (b1.setCell (p := ⟨w.heap.size, 0, none⟩) (Nat.le_refl _) _).setCell (p := ⟨w.heap.size, 1, none⟩) (Nat.le_refl _) _
set_option maxRecDepth 100000 in
set_option maxHeartbeats 1600000 in
theorem pT0_14_o (s N D : ByteArray) (w : World) (hv : VarR w)
    (HC : ∀ W, VarR W → Calls Tryz.prog 135 #[.string s, .string ⟨#[47]⟩] W (CutR N D true W))
    (HX : ∀ W, Calls Tryz.prog 118 #[.string N] W (IntR 0 W)) (HY : ∀ W, Calls Tryz.prog 118 #[.string D] W (IntR 14 W))
    (HO : ∀ W, Calls Tryz.prog 136 #[.string D] W (BooR true W)) : Calls Tryz.prog 96 #[.string s] w (PrsR ⟨#[]⟩ ⟨#[]⟩ 14 w) := by
  have HB := Lib.hid ((Below.refl _ w).alloc (Nat.le_refl _) (.cells #[.string ⟨#[]⟩, .string ⟨#[]⟩] 111))
  have HR := heap_alloc_new w (.cells #[.string ⟨#[]⟩, .string ⟨#[]⟩] 111)
  have HV := Lib.hid hv
  have JC := Lib.hid HC
  have JX := Lib.hid HX
  have JY := Lib.hid HY
  have JO := Lib.hid HO
  clear hv HC HX HY HO
  go_enter Tryz.func96, Tryz.ntmps96
  go_wp2_with (first
    | (go_at_call 135; refine (JC.out _ (HV.out.below HB.out)).mono ?_; rintro e w1 ⟨rfl, k, rfl⟩; have b1 := below_drewN HB.out k; have R1 := row_drewN HR k; obtain ⟨k1, k2, k3, k4⟩ := row2 R1)
    | (go_at_call 118; (with_reducible refine (JX.out _).mono ?_); rintro e w2 ⟨rfl, rfl⟩)
    | (go_at_call 118; (with_reducible refine (JY.out _).mono ?_); rintro e w3 ⟨rfl, rfl⟩)
    | (go_at_call 136; (with_reducible refine (JO.out _).mono ?_); rintro e w4 ⟨rfl, rfl⟩))
  refine bodyPost_ret (v := .tuple #[.agg #[.string ⟨#[]⟩, .string ⟨#[]⟩], .int .i64 14]) (results_cell_tmp rfl _ _ w.heap.size 111 #[.string ⟨#[]⟩, .string ⟨#[]⟩] (0, 0) _ (.int .i64 14) rfl rfl (sc_row _ _ R1) Tryz.underlying111 (by kernel_rfl) (by kernel_rfl)) rfl ⟨rfl, ?_⟩
  exact (b1.setCell (p := ⟨w.heap.size, 0, none⟩) (Nat.le_refl _) _).setCell (p := ⟨w.heap.size, 1, none⟩) (Nat.le_refl _) _
set_option maxRecDepth 100000 in
set_option maxHeartbeats 1600000 in
theorem pT12_0 (s N D : ByteArray) (w : World) (hv : VarR w)
    (HC : ∀ W, VarR W → Calls Tryz.prog 135 #[.string s, .string ⟨#[47]⟩] W (CutR N D true W))
    (HX : ∀ W, Calls Tryz.prog 118 #[.string N] W (IntR 12 W)) (HY : ∀ W, Calls Tryz.prog 118 #[.string D] W (IntR 0 W)) : Calls Tryz.prog 96 #[.string s] w (PrsR ⟨#[]⟩ ⟨#[]⟩ 12 w) := by
  have HB := Lib.hid ((Below.refl _ w).alloc (Nat.le_refl _) (.cells #[.string ⟨#[]⟩, .string ⟨#[]⟩] 111))
  have HR := heap_alloc_new w (.cells #[.string ⟨#[]⟩, .string ⟨#[]⟩] 111)
  have HV := Lib.hid hv
  have JC := Lib.hid HC
  have JX := Lib.hid HX
  have JY := Lib.hid HY
  clear hv HC HX HY
  go_enter Tryz.func96, Tryz.ntmps96
  go_wp2_with (first
    | (go_at_call 135; refine (JC.out _ (HV.out.below HB.out)).mono ?_; rintro e w1 ⟨rfl, k, rfl⟩; have b1 := below_drewN HB.out k; have R1 := row_drewN HR k; obtain ⟨k1, k2, k3, k4⟩ := row2 R1)
    | (go_at_call 118; (with_reducible refine (JX.out _).mono ?_); rintro e w2 ⟨rfl, rfl⟩)
    | (go_at_call 118; (with_reducible refine (JY.out _).mono ?_); rintro e w3 ⟨rfl, rfl⟩))
  refine bodyPost_ret (v := .tuple #[.agg #[.string ⟨#[]⟩, .string ⟨#[]⟩], .int .i64 12]) (results_cell_tmp rfl _ _ w.heap.size 111 #[.string ⟨#[]⟩, .string ⟨#[]⟩] (0, 0) _ (.int .i64 12) rfl rfl (sc_row _ _ R1) Tryz.underlying111 (by kernel_rfl) (by kernel_rfl)) rfl ⟨rfl, ?_⟩
  exact (b1.setCell (p := ⟨w.heap.size, 0, none⟩) (Nat.le_refl _) _).setCell (p := ⟨w.heap.size, 1, none⟩) (Nat.le_refl _) _
set_option maxRecDepth 100000 in
set_option maxHeartbeats 1600000 in
theorem pT12_12 (s N D : ByteArray) (w : World) (hv : VarR w)
    (HC : ∀ W, VarR W → Calls Tryz.prog 135 #[.string s, .string ⟨#[47]⟩] W (CutR N D true W))
    (HX : ∀ W, Calls Tryz.prog 118 #[.string N] W (IntR 12 W)) (HY : ∀ W, Calls Tryz.prog 118 #[.string D] W (IntR 12 W)) : Calls Tryz.prog 96 #[.string s] w (PrsR ⟨#[]⟩ ⟨#[]⟩ 12 w) := by
  have HB := Lib.hid ((Below.refl _ w).alloc (Nat.le_refl _) (.cells #[.string ⟨#[]⟩, .string ⟨#[]⟩] 111))
  have HR := heap_alloc_new w (.cells #[.string ⟨#[]⟩, .string ⟨#[]⟩] 111)
  have HV := Lib.hid hv
  have JC := Lib.hid HC
  have JX := Lib.hid HX
  have JY := Lib.hid HY
  clear hv HC HX HY
  go_enter Tryz.func96, Tryz.ntmps96
  go_wp2_with (first
    | (go_at_call 135; refine (JC.out _ (HV.out.below HB.out)).mono ?_; rintro e w1 ⟨rfl, k, rfl⟩; have b1 := below_drewN HB.out k; have R1 := row_drewN HR k; obtain ⟨k1, k2, k3, k4⟩ := row2 R1)
    | (go_at_call 118; (with_reducible refine (JX.out _).mono ?_); rintro e w2 ⟨rfl, rfl⟩)
    | (go_at_call 118; (with_reducible refine (JY.out _).mono ?_); rintro e w3 ⟨rfl, rfl⟩))
  refine bodyPost_ret (v := .tuple #[.agg #[.string ⟨#[]⟩, .string ⟨#[]⟩], .int .i64 12]) (results_cell_tmp rfl _ _ w.heap.size 111 #[.string ⟨#[]⟩, .string ⟨#[]⟩] (0, 0) _ (.int .i64 12) rfl rfl (sc_row _ _ R1) Tryz.underlying111 (by kernel_rfl) (by kernel_rfl)) rfl ⟨rfl, ?_⟩
  exact (b1.setCell (p := ⟨w.heap.size, 0, none⟩) (Nat.le_refl _) _).setCell (p := ⟨w.heap.size, 1, none⟩) (Nat.le_refl _) _
set_option maxRecDepth 100000 in
set_option maxHeartbeats 1600000 in
theorem pT12_14 (s N D : ByteArray) (w : World) (hv : VarR w)
    (HC : ∀ W, VarR W → Calls Tryz.prog 135 #[.string s, .string ⟨#[47]⟩] W (CutR N D true W))
    (HX : ∀ W, Calls Tryz.prog 118 #[.string N] W (IntR 12 W)) (HY : ∀ W, Calls Tryz.prog 118 #[.string D] W (IntR 14 W)) : Calls Tryz.prog 96 #[.string s] w (PrsR ⟨#[]⟩ ⟨#[]⟩ 12 w) := by
  have HB := Lib.hid ((Below.refl _ w).alloc (Nat.le_refl _) (.cells #[.string ⟨#[]⟩, .string ⟨#[]⟩] 111))
  have HR := heap_alloc_new w (.cells #[.string ⟨#[]⟩, .string ⟨#[]⟩] 111)
  have HV := Lib.hid hv
  have JC := Lib.hid HC
  have JX := Lib.hid HX
  have JY := Lib.hid HY
  clear hv HC HX HY
  go_enter Tryz.func96, Tryz.ntmps96
  go_wp2_with (first
    | (go_at_call 135; refine (JC.out _ (HV.out.below HB.out)).mono ?_; rintro e w1 ⟨rfl, k, rfl⟩; have b1 := below_drewN HB.out k; have R1 := row_drewN HR k; obtain ⟨k1, k2, k3, k4⟩ := row2 R1)
    | (go_at_call 118; (with_reducible refine (JX.out _).mono ?_); rintro e w2 ⟨rfl, rfl⟩)
    | (go_at_call 118; (with_reducible refine (JY.out _).mono ?_); rintro e w3 ⟨rfl, rfl⟩))
  refine bodyPost_ret (v := .tuple #[.agg #[.string ⟨#[]⟩, .string ⟨#[]⟩], .int .i64 12]) (results_cell_tmp rfl _ _ w.heap.size 111 #[.string ⟨#[]⟩, .string ⟨#[]⟩] (0, 0) _ (.int .i64 12) rfl rfl (sc_row _ _ R1) Tryz.underlying111 (by kernel_rfl) (by kernel_rfl)) rfl ⟨rfl, ?_⟩
  exact (b1.setCell (p := ⟨w.heap.size, 0, none⟩) (Nat.le_refl _) _).setCell (p := ⟨w.heap.size, 1, none⟩) (Nat.le_refl _) _
set_option maxRecDepth 100000 in
set_option maxHeartbeats 1600000 in
theorem pT14_0_n (s N D : ByteArray) (w : World) (hv : VarR w)
    (HC : ∀ W, VarR W → Calls Tryz.prog 135 #[.string s, .string ⟨#[47]⟩] W (CutR N D true W))
    (HX : ∀ W, Calls Tryz.prog 118 #[.string N] W (IntR 14 W)) (HY : ∀ W, Calls Tryz.prog 118 #[.string D] W (IntR 0 W))
    (HO : ∀ W, Calls Tryz.prog 136 #[.string D] W (BooR false W)) : Calls Tryz.prog 96 #[.string s] w (PrsR ⟨#[]⟩ ⟨#[]⟩ 12 w) := by
  have HB := Lib.hid ((Below.refl _ w).alloc (Nat.le_refl _) (.cells #[.string ⟨#[]⟩, .string ⟨#[]⟩] 111))
  have HR := heap_alloc_new w (.cells #[.string ⟨#[]⟩, .string ⟨#[]⟩] 111)
  have HV := Lib.hid hv
  have JC := Lib.hid HC
  have JX := Lib.hid HX
  have JY := Lib.hid HY
  have JO := Lib.hid HO
  clear hv HC HX HY HO
  go_enter Tryz.func96, Tryz.ntmps96
  go_wp2_with (first
    | (go_at_call 135; refine (JC.out _ (HV.out.below HB.out)).mono ?_; rintro e w1 ⟨rfl, k, rfl⟩; have b1 := below_drewN HB.out k; have R1 := row_drewN HR k; obtain ⟨k1, k2, k3, k4⟩ := row2 R1)
    | (go_at_call 118; (with_reducible refine (JX.out _).mono ?_); rintro e w2 ⟨rfl, rfl⟩)
    | (go_at_call 118; (with_reducible refine (JY.out _).mono ?_); rintro e w3 ⟨rfl, rfl⟩)
    | (go_at_call 136; (with_reducible refine (JO.out _).mono ?_); rintro e w4 ⟨rfl, rfl⟩))
  refine bodyPost_ret (v := .tuple #[.agg #[.string ⟨#[]⟩, .string ⟨#[]⟩], .int .i64 12]) (results_cell_tmp rfl _ _ w.heap.size 111 #[.string ⟨#[]⟩, .string ⟨#[]⟩] (0, 0) _ (.int .i64 12) rfl rfl (sc_row _ _ R1) Tryz.underlying111 (by kernel_rfl) (by kernel_rfl)) rfl ⟨rfl, ?_⟩
  exact (b1.setCell (p := ⟨w.heap.size, 0, none⟩) (Nat.le_refl _) _).setCell (p := ⟨w.heap.size, 1, none⟩) (Nat.le_refl _) _
set_option maxRecDepth 100000 in
set_option maxHeartbeats 1600000 in
theorem pT14_0_o (s N D : ByteArray) (w : World) (hv : VarR w)
    (HC : ∀ W, VarR W → Calls Tryz.prog 135 #[.string s, .string ⟨#[47]⟩] W (CutR N D true W))
    (HX : ∀ W, Calls Tryz.prog 118 #[.string N] W (IntR 14 W)) (HY : ∀ W, Calls Tryz.prog 118 #[.string D] W (IntR 0 W))
    (HO : ∀ W, Calls Tryz.prog 136 #[.string D] W (BooR true W)) : Calls Tryz.prog 96 #[.string s] w (PrsR ⟨#[]⟩ ⟨#[]⟩ 14 w) := by
  have HB := Lib.hid ((Below.refl _ w).alloc (Nat.le_refl _) (.cells #[.string ⟨#[]⟩, .string ⟨#[]⟩] 111))
  have HR := heap_alloc_new w (.cells #[.string ⟨#[]⟩, .string ⟨#[]⟩] 111)
  have HV := Lib.hid hv
  have JC := Lib.hid HC
  have JX := Lib.hid HX
  have JY := Lib.hid HY
  have JO := Lib.hid HO
  clear hv HC HX HY HO
  go_enter Tryz.func96, Tryz.ntmps96
  go_wp2_with (first
    | (go_at_call 135; refine (JC.out _ (HV.out.below HB.out)).mono ?_; rintro e w1 ⟨rfl, k, rfl⟩; have b1 := below_drewN HB.out k; have R1 := row_drewN HR k; obtain ⟨k1, k2, k3, k4⟩ := row2 R1)
    | (go_at_call 118; (with_reducible refine (JX.out _).mono ?_); rintro e w2 ⟨rfl, rfl⟩)
    | (go_at_call 118; (with_reducible refine (JY.out _).mono ?_); rintro e w3 ⟨rfl, rfl⟩)
    | (go_at_call 136; (with_reducible refine (JO.out _).mono ?_); rintro e w4 ⟨rfl, rfl⟩))
  refine bodyPost_ret (v := .tuple #[.agg #[.string ⟨#[]⟩, .string ⟨#[]⟩], .int .i64 14]) (results_cell_tmp rfl _ _ w.heap.size 111 #[.string ⟨#[]⟩, .string ⟨#[]⟩] (0, 0) _ (.int .i64 14) rfl rfl (sc_row _ _ R1) Tryz.underlying111 (by kernel_rfl) (by kernel_rfl)) rfl ⟨rfl, ?_⟩
  exact (b1.setCell (p := ⟨w.heap.size, 0, none⟩) (Nat.le_refl _) _).setCell (p := ⟨w.heap.size, 1, none⟩) (Nat.le_refl _) _
set_option maxRecDepth 100000 in
set_option maxHeartbeats 1600000 in
theorem pT14_12 (s N D : ByteArray) (w : World) (hv : VarR w)
    (HC : ∀ W, VarR W → Calls Tryz.prog 135 #[.string s, .string ⟨#[47]⟩] W (CutR N D true W))
    (HX : ∀ W, Calls Tryz.prog 118 #[.string N] W (IntR 14 W)) (HY : ∀ W, Calls Tryz.prog 118 #[.string D] W (IntR 12 W)) : Calls Tryz.prog 96 #[.string s] w (PrsR ⟨#[]⟩ ⟨#[]⟩ 12 w) := by
  have HB := Lib.hid ((Below.refl _ w).alloc (Nat.le_refl _) (.cells #[.string ⟨#[]⟩, .string ⟨#[]⟩] 111))
  have HR := heap_alloc_new w (.cells #[.string ⟨#[]⟩, .string ⟨#[]⟩] 111)
  have HV := Lib.hid hv
  have JC := Lib.hid HC
  have JX := Lib.hid HX
  have JY := Lib.hid HY
  clear hv HC HX HY
  go_enter Tryz.func96, Tryz.ntmps96
  go_wp2_with (first
    | (go_at_call 135; refine (JC.out _ (HV.out.below HB.out)).mono ?_; rintro e w1 ⟨rfl, k, rfl⟩; have b1 := below_drewN HB.out k; have R1 := row_drewN HR k; obtain ⟨k1, k2, k3, k4⟩ := row2 R1)
    | (go_at_call 118; (with_reducible refine (JX.out _).mono ?_); rintro e w2 ⟨rfl, rfl⟩)
    | (go_at_call 118; (with_reducible refine (JY.out _).mono ?_); rintro e w3 ⟨rfl, rfl⟩))
  refine bodyPost_ret (v := .tuple #[.agg #[.string ⟨#[]⟩, .string ⟨#[]⟩], .int .i64 12]) (results_cell_tmp rfl _ _ w.heap.size 111 #[.string ⟨#[]⟩, .string ⟨#[]⟩] (0, 0) _ (.int .i64 12) rfl rfl (sc_row _ _ R1) Tryz.underlying111 (by kernel_rfl) (by kernel_rfl)) rfl ⟨rfl, ?_⟩
  exact (b1.setCell (p := ⟨w.heap.size, 0, none⟩) (Nat.le_refl _) _).setCell (p := ⟨w.heap.size, 1, none⟩) (Nat.le_refl _) _
set_option maxRecDepth 100000 in
set_option maxHeartbeats 1600000 in
theorem pT14_14_n (s N D : ByteArray) (w : World) (hv : VarR w)
    (HC : ∀ W, VarR W → Calls Tryz.prog 135 #[.string s, .string ⟨#[47]⟩] W (CutR N D true W))
    (HX : ∀ W, Calls Tryz.prog 118 #[.string N] W (IntR 14 W)) (HY : ∀ W, Calls Tryz.prog 118 #[.string D] W (IntR 14 W))
    (HO : ∀ W, Calls Tryz.prog 136 #[.string D] W (BooR false W)) : Calls Tryz.prog 96 #[.string s] w (PrsR ⟨#[]⟩ ⟨#[]⟩ 12 w) := by
  have HB := Lib.hid ((Below.refl _ w).alloc (Nat.le_refl _) (.cells #[.string ⟨#[]⟩, .string ⟨#[]⟩] 111))
  have HR := heap_alloc_new w (.cells #[.string ⟨#[]⟩, .string ⟨#[]⟩] 111)
  have HV := Lib.hid hv
  have JC := Lib.hid HC
  have JX := Lib.hid HX
  have JY := Lib.hid HY
  have JO := Lib.hid HO
  clear hv HC HX HY HO
  go_enter Tryz.func96, Tryz.ntmps96
  go_wp2_with (first
    | (go_at_call 135; refine (JC.out _ (HV.out.below HB.out)).mono ?_; rintro e w1 ⟨rfl, k, rfl⟩; have b1 := below_drewN HB.out k; have R1 := row_drewN HR k; obtain ⟨k1, k2, k3, k4⟩ := row2 R1)
    | (go_at_call 118; (with_reducible refine (JX.out _).mono ?_); rintro e w2 ⟨rfl, rfl⟩)
    | (go_at_call 118; (with_reducible refine (JY.out _).mono ?_); rintro e w3 ⟨rfl, rfl⟩)
    | (go_at_call 136; (with_reducible refine (JO.out _).mono ?_); rintro e w4 ⟨rfl, rfl⟩))
  refine bodyPost_ret (v := .tuple #[.agg #[.string ⟨#[]⟩, .string ⟨#[]⟩], .int .i64 12]) (results_cell_tmp rfl _ _ w.heap.size 111 #[.string ⟨#[]⟩, .string ⟨#[]⟩] (0, 0) _ (.int .i64 12) rfl rfl (sc_row _ _ R1) Tryz.underlying111 (by kernel_rfl) (by kernel_rfl)) rfl ⟨rfl, ?_⟩
  exact (b1.setCell (p := ⟨w.heap.size, 0, none⟩) (Nat.le_refl _) _).setCell (p := ⟨w.heap.size, 1, none⟩) (Nat.le_refl _) _
set_option maxRecDepth 100000 in
set_option maxHeartbeats 1600000 in
theorem pT14_14_o (s N D : ByteArray) (w : World) (hv : VarR w)
    (HC : ∀ W, VarR W → Calls Tryz.prog 135 #[.string s, .string ⟨#[47]⟩] W (CutR N D true W))
    (HX : ∀ W, Calls Tryz.prog 118 #[.string N] W (IntR 14 W)) (HY : ∀ W, Calls Tryz.prog 118 #[.string D] W (IntR 14 W))
    (HO : ∀ W, Calls Tryz.prog 136 #[.string D] W (BooR true W)) : Calls Tryz.prog 96 #[.string s] w (PrsR ⟨#[]⟩ ⟨#[]⟩ 14 w) := by
  have HB := Lib.hid ((Below.refl _ w).alloc (Nat.le_refl _) (.cells #[.string ⟨#[]⟩, .string ⟨#[]⟩] 111))
  have HR := heap_alloc_new w (.cells #[.string ⟨#[]⟩, .string ⟨#[]⟩] 111)
  have HV := Lib.hid hv
  have JC := Lib.hid HC
  have JX := Lib.hid HX
  have JY := Lib.hid HY
  have JO := Lib.hid HO
  clear hv HC HX HY HO
  go_enter Tryz.func96, Tryz.ntmps96
  go_wp2_with (first
    | (go_at_call 135; refine (JC.out _ (HV.out.below HB.out)).mono ?_; rintro e w1 ⟨rfl, k, rfl⟩; have b1 := below_drewN HB.out k; have R1 := row_drewN HR k; obtain ⟨k1, k2, k3, k4⟩ := row2 R1)
    | (go_at_call 118; (with_reducible refine (JX.out _).mono ?_); rintro e w2 ⟨rfl, rfl⟩)
    | (go_at_call 118; (with_reducible refine (JY.out _).mono ?_); rintro e w3 ⟨rfl, rfl⟩)
    | (go_at_call 136; (with_reducible refine (JO.out _).mono ?_); rintro e w4 ⟨rfl, rfl⟩))
  refine bodyPost_ret (v := .tuple #[.agg #[.string ⟨#[]⟩, .string ⟨#[]⟩], .int .i64 14]) (results_cell_tmp rfl _ _ w.heap.size 111 #[.string ⟨#[]⟩, .string ⟨#[]⟩] (0, 0) _ (.int .i64 14) rfl rfl (sc_row _ _ R1) Tryz.underlying111 (by kernel_rfl) (by kernel_rfl)) rfl ⟨rfl, ?_⟩
  exact (b1.setCell (p := ⟨w.heap.size, 0, none⟩) (Nat.le_refl _) _).setCell (p := ⟨w.heap.size, 1, none⟩) (Nat.le_refl _) _
end Go.Proofs.YtbfimfjhdbpenaaGreatDoor
/- The walks of layer 2: parse as a whole; Parts. -/
namespace Go.Proofs.YtbfimfjhdbpenaaGreatDoor
open Go Go.RowKit
theorem chkR_eq {l : List UInt8} {x y : Int} {h o : Bool} {g : Nat} (hx : chk (nB l) = x) (hy : chk (dB l) = y) (hh : hB l = h) (ho : okD (dB l) = o) (hg : Nat.gcd (num (nB l)).natAbs (num (dB l)).natAbs = g) :
    chkR l = if x = 12 ∨ y = 12 ∨ (h = true ∧ o = false) then 12 else if ¬ x = 0 ∨ ¬ y = 0 then 14 else if h = true ∧ ¬ g = 1 then 12 else 0 := by
  subst hx; subst hy; subst hh; subst ho; subst hg; rfl
theorem parS_err {l : List UInt8} {c : Int} (h : chkR l = c) (hc : ¬ c = 0) : (⟨(parS l).1.toArray⟩ : ByteArray) = ⟨#[]⟩ ∧ (⟨(parS l).2.toArray⟩ : ByteArray) = ⟨#[]⟩ := by
  unfold parS; rw [if_neg (by rw [h]; exact hc)]; exact ⟨rfl, rfl⟩
theorem parS_ok {l : List UInt8} (h : chkR l = 0) : (⟨(parS l).1.toArray⟩ : ByteArray) = ⟨(nB l).toArray⟩ ∧ (⟨(parS l).2.toArray⟩ : ByteArray) = ⟨(dB l).toArray⟩ := by
  unfold parS; rw [if_pos h]; exact ⟨rfl, rfl⟩
theorem gcd_text {l m : List UInt8} (hl : chk l = 0) (hm : chk m = 0) : (gcS l m).1 = Lib.itoa ((Nat.gcd (num l).natAbs (num m).natAbs : Nat) : Int) := by
  rw [gcS_ok (by unfold bothE; rw [if_pos hl]; exact hm)]
theorem itoa_is_one (g : Nat) : ((⟨(Lib.itoa (g : Int)).toArray⟩ : ByteArray).toList == [49]) = decide (g = 1) := by
  rw [Lib.toList_data, Bool.eq_iff_iff, beq_iff_eq, decide_eq_true_iff]
  constructor
  · intro h
    have h2 : Lib.itoa (g : Int) = Lib.itoa 1 := h.trans (by decide +kernel)
    have := itoa_inj h2
    omega
  · rintro rfl; show Lib.itoa 1 = [49]; decide +kernel
set_option maxHeartbeats 800000 in
theorem parse_rat (s : ByteArray) (hs : s.size ≤ 1048576) (w : World) (hv : VarR w) :
    Calls Tryz.prog 96 #[.string s] w (PrsR ⟨(parS s.data.toList).1.toArray⟩ ⟨(parS s.data.toList).2.toArray⟩ (chkR s.data.toList) w) := by
  obtain ⟨c1, c2, c3, c4⟩ := cut_parts s.data.toList
  have hl1 := nB_len s.data.toList
  have hl2 := dB_len s.data.toList
  rw [← Lib.size_eq] at hl1 hl2
  have HC : ∀ W, VarR W → Calls Tryz.prog 135 #[.string s, .string ⟨#[47]⟩] W (CutR ⟨(nB s.data.toList).toArray⟩ ⟨(Lib.cut s.data.toList [47]).2.1.toArray⟩ (hB s.data.toList) W) := fun W hW => by
    obtain ⟨m, hm⟩ := hW.ml
    have := Tryz.strings_Cut s ⟨#[47]⟩ m W (by omega) hm
    rw [show (⟨#[47]⟩ : ByteArray).data.toList = [47] from rfl, c1, c2] at this
    exact this
  have HX : ∀ W, Calls Tryz.prog 118 #[.string ⟨(nB s.data.toList).toArray⟩] W (IntR (chk (nB s.data.toList)) W) := fun W => check_any ⟨(nB s.data.toList).toArray⟩ W (by show (nB s.data.toList).length ≤ maxLen; unfold maxLen; omega)
  have HY : ∀ W, Calls Tryz.prog 118 #[.string ⟨(dB s.data.toList).toArray⟩] W (IntR (chk (dB s.data.toList)) W) := fun W => check_any ⟨(dB s.data.toList).toArray⟩ W (by show (dB s.data.toList).length ≤ maxLen; unfold maxLen; omega)
  have HO : ∀ W, Calls Tryz.prog 136 #[.string ⟨(dB s.data.toList).toArray⟩] W (BooR (okD (dB s.data.toList)) W) := fun W => aboveOne_any ⟨(dB s.data.toList).toArray⟩ _ rfl W
  have HG : chk (nB s.data.toList) = 0 → chk (dB s.data.toList) = 0 → ∀ W, VarT W → Calls Tryz.prog 137 #[.string ⟨(nB s.data.toList).toArray⟩, .string ⟨(dB s.data.toList).toArray⟩] W
      (StrR ⟨(Lib.itoa ((Nat.gcd (num (nB s.data.toList)).natAbs (num (dB s.data.toList)).natAbs : Nat) : Int)).toArray⟩ W) := fun hx hy W hW => by
    have := divisor_any ⟨(nB s.data.toList).toArray⟩ ⟨(dB s.data.toList).toArray⟩ (by show (nB s.data.toList).length ≤ maxLen; unfold maxLen; omega) (by show (dB s.data.toList).length ≤ maxLen; unfold maxLen; omega) _ rfl W hW
    rw [show (⟨(nB s.data.toList).toArray⟩ : ByteArray).data.toList = nB s.data.toList from rfl, show (⟨(dB s.data.toList).toArray⟩ : ByteArray).data.toList = dB s.data.toList from rfl, gcd_text hx hy] at this
    exact this
  have hgt := itoa_is_one (Nat.gcd (num (nB s.data.toList)).natAbs (num (dB s.data.toList)).natAbs)
  have HP := fun c (h : chkR s.data.toList = c) (hc : ¬ c = 0) => parS_err h hc
  have HQ := parS_ok (l := s.data.toList)
  have HE := @chkR_eq s.data.toList
  cases hh : hB s.data.toList
  · have hd := dB_plain hh
    rw [hh] at HC
    have hdl : (⟨(dB s.data.toList).toArray⟩ : ByteArray) = ⟨#[49]⟩ := by rw [hd]
    have hy : chk (dB s.data.toList) = 0 := by rw [hd]; exact chk_one
    rw [hdl, hy] at HY
    rcases chk_cases (nB s.data.toList) with hx | hx | hx
    · rw [hx] at HX
      have e := HE hx hy hh rfl rfl
      simp at e
      obtain ⟨p1, p2⟩ := HQ e
      rw [e, p1, p2, hdl]
      exact pF0 s _ _ w hv HC HX HY
    · rw [hx] at HX
      have e := HE hx hy hh rfl rfl
      simp at e
      obtain ⟨p1, p2⟩ := HP _ e (by decide)
      rw [e, p1, p2]
      exact pF12 s _ _ w hv HC HX HY
    · rw [hx] at HX
      have e := HE hx hy hh rfl rfl
      simp at e
      obtain ⟨p1, p2⟩ := HP _ e (by decide)
      rw [e, p1, p2]
      exact pF14 s _ _ w hv HC HX HY
  · rw [hh, c3 hh] at HC
    rcases chk_cases (nB s.data.toList) with hx | hx | hx <;> rcases chk_cases (dB s.data.toList) with hy | hy | hy <;> cases ho : okD (dB s.data.toList)
    all_goals
      rw [hx] at HX
      rw [hy] at HY
      rw [ho] at HO
    · have e := HE hx hy hh ho rfl
      simp at e
      obtain ⟨p1, p2⟩ := HP _ e (by decide)
      rw [e, p1, p2]
      exact pT0_0_n s _ _ w hv HC HX HY HO
    · by_cases hg : Nat.gcd (num (nB s.data.toList)).natAbs (num (dB s.data.toList)).natAbs = 1
      · have e := HE hx hy hh ho hg
        simp at e
        obtain ⟨p1, p2⟩ := HQ e
        rw [e, p1, p2]
        exact pT0_0_g s _ _ _ w hv HC HX HY HO (HG hx hy) (by rw [hgt]; exact decide_eq_true hg)
      · have e := HE hx hy hh ho rfl
        simp [hg] at e
        obtain ⟨p1, p2⟩ := HP _ e (by decide)
        rw [e, p1, p2]
        exact pT0_0_h s _ _ _ w hv HC HX HY HO (HG hx hy) (by rw [hgt]; exact decide_eq_false hg)
    all_goals
      have e := HE hx hy hh ho rfl
      simp at e
      obtain ⟨p1, p2⟩ := HP _ e (by decide)
      rw [e, p1, p2]
      first
        | exact pT0_12 s _ _ w hv HC HX HY
        | exact pT0_14_n s _ _ w hv HC HX HY HO
        | exact pT0_14_o s _ _ w hv HC HX HY HO
        | exact pT12_0 s _ _ w hv HC HX HY
        | exact pT12_12 s _ _ w hv HC HX HY
        | exact pT12_14 s _ _ w hv HC HX HY
        | exact pT14_0_n s _ _ w hv HC HX HY HO
        | exact pT14_0_o s _ _ w hv HC HX HY HO
        | exact pT14_12 s _ _ w hv HC HX HY
        | exact pT14_14_n s _ _ w hv HC HX HY HO
        | exact pT14_14_o s _ _ w hv HC HX HY HO
end Go.Proofs.YtbfimfjhdbpenaaGreatDoor
/- The walks of layer 2: product, inverse, quotient. -/
namespace Go.Proofs.YtbfimfjhdbpenaaGreatDoor
open Go Go.RowKit
theorem mul_lims {x y : Int} (hx : x.natAbs < lim) (hy : y.natAbs < lim) (r : ByteArray) (c : Int) (hr : r = if LB (x * y) = true then rep (x * y) else ⟨#[]⟩) (hc : c = if LB (x * y) = true then 0 else 14) (s t : ByteArray) (hs : rep x = s) (ht : rep y = t) (w : World) (hv : VarT w) :
    Calls Tryz.prog 116 #[.string s, .string t] w (StE r c w) := by
  subst hs; subst ht
  have h := mul_any (rep x) (rep y) (rep_size hx) (rep_size hy) w hv
  rw [rep_data, rep_data, opS_ok (by unfold bothE; rw [if_pos (chk_of_abs hx)]; exact chk_of_abs hy), num_itoa, num_itoa] at h
  subst hr; subst hc
  unfold limS at h
  cases hl : LB (x * y)
  · rw [if_neg (LB_false hl)] at h
    exact h
  · rw [if_pos (LB_true.1 hl)] at h
    exact h
theorem reduced_q {x y : Int} {q : Rat} (hx : x.natAbs < lim) (hy : y.natAbs < lim) (h0 : y ≠ 0) (hq : Rat.divInt x y = q) (s t : ByteArray) (hs : rep x = s) (ht : rep y = t) (w : World) (hv : VarT w) :
    Calls Tryz.prog 127 #[.string s, .string t] w (FraR (rep q.num) (rep (q.den : Int)) w) := by
  subst hq
  exact reduced_rep hx hy h0 s t _ _ hs ht (by rw [qN_rat h0]) (by rw [qD_rat h0]) w hv
set_option maxRecDepth 100000 in
set_option maxHeartbeats 3200000 in
theorem product_ok (an ad bn bd r1 r2 N D : ByteArray) (w : World) (hv : VarT w)
    (H1 : ∀ W, VarT W → Calls Tryz.prog 116 #[.string an, .string bn] W (StE r1 0 W))
    (H2 : ∀ W, VarT W → Calls Tryz.prog 116 #[.string ad, .string bd] W (StE r2 0 W))
    (H3 : ∀ W, VarT W → Calls Tryz.prog 127 #[.string r1, .string r2] W (FraR N D W)) :
    Calls Tryz.prog 83 #[.agg #[.string an, .string ad], .agg #[.string bn, .string bd]] w (PrsR N D 0 w) := by
  have J1 := Lib.hid H1
  have J2 := Lib.hid H2
  have J3 := Lib.hid H3
  have HV := Lib.hid hv
  have HR := Lib.hid (fun (w5 : World) => @rows5 w (.string an) (.string ad) (.string bn) (.string bd) 111 29 116 hv w5)
  clear H1 H2 H3 hv
  go_enter Tryz.func83, Tryz.ntmps83
  go_wp2_with (go_at_call 78; refine (multiplier_any _ _).mono ?_; rintro e w5 ⟨rfl, h5⟩; obtain ⟨C0, k1, k2, k3, k4, k5⟩ := HR.out w5 h5; clear h5)
  have hC0 := C0.drew
  clear C0
  have hk5 : w5.drew.heap[w.heap.size + 1 + 1]? = some (.cells #[.string ⟨#[]⟩, .string ⟨#[]⟩] 111 (0, 0)) := k5
  clear k5
  go_region_held3 (fun w' => w'.cell? ⟨w.heap.size, 0, none⟩ = some (.string an) ∧ w'.cell? ⟨w.heap.size, 1, none⟩ = some (.string ad) ∧ w'.cell? ⟨w.heap.size + 1, 0, none⟩ = some (.string bn) ∧ w'.cell? ⟨w.heap.size + 1, 1, none⟩ = some (.string bd))
    (((try go_split_ands); (and_intros) <;> first | assumption | exact tim_far (by assumption) (by omega) b2 | exact tim_far (by assumption) (by omega) b1 | (go_keep; done)))
    (first
      | (go_split_ands; go_at_call 115; (with_reducible refine (hC0.call _ _ r1 0 0 rfl J1.out).mono ?_); rintro e w6 ⟨rfl, b1⟩; have hC1 := hC0.after (by omega) (by omega) HV.out b1; have hk6 := tim_row hk5 (by omega) b1)
      | (go_split_ands; go_at_call 115; (with_reducible refine (hC1.call _ _ r2 0 0 rfl J2.out).mono ?_); rintro e w7 ⟨rfl, b2⟩; have hC2 := hC1.after (by omega) (by omega) HV.out b2; have hk7 := tim_row hk6 (by omega) b2))
  have hq := hC2.hq
  have HC2 := Lib.hid hC2
  have HK := Lib.hid hk7
  clear hC0 hC1 hC2 hk5 hk6 hk7 b1 b2 k1 k2 k3 k4
  go_wp2_with (go_at_call 127; refine (J3.out _ HC2.out.v).mono ?_; rintro e w8 ⟨rfl, b⟩; have R := (b.block _ (lt_of_block HK.out)).trans HK.out; obtain ⟨k1, k2, k3, k4⟩ := row2 R; have HR8 := Lib.hid R; have B8 := Lib.hid (bt HC2.out.bl b); clear R b)
  refine bodyPost_ret (v := .tuple #[.agg #[.string N, .string D], .int .i64 0]) (results_cell_tmp rfl _ _ (w.heap.size + 1 + 1) 111 #[.string N, .string D] (0, 0) _ (.int .i64 0) rfl rfl (sc_row _ _ HR8.out) Tryz.underlying111 (by kernel_rfl) (by kernel_rfl)) rfl ⟨rfl, ?_⟩
  exact (B8.out.setCell (p := ⟨w.heap.size + 1 + 1, 0, none⟩) (by show w.heap.size ≤ w.heap.size + 1 + 1; omega) _).setCell (p := ⟨w.heap.size + 1 + 1, 1, none⟩) (by show w.heap.size ≤ w.heap.size + 1 + 1; omega) _
set_option maxRecDepth 100000 in
set_option maxHeartbeats 3200000 in
theorem product_err (an ad bn bd r1 r2 : ByteArray) (c1 c2 c : Int) (hc : (if c1 = 0 then c2 else c1) = c) (h0 : ¬ c = 0) (w : World) (hv : VarT w)
    (H1 : ∀ W, VarT W → Calls Tryz.prog 116 #[.string an, .string bn] W (StE r1 c1 W))
    (H2 : ∀ W, VarT W → Calls Tryz.prog 116 #[.string ad, .string bd] W (StE r2 c2 W)) :
    Calls Tryz.prog 83 #[.agg #[.string an, .string ad], .agg #[.string bn, .string bd]] w (PrsR ⟨#[]⟩ ⟨#[]⟩ c w) := by
  have J1 := Lib.hid H1
  have J2 := Lib.hid H2
  have HC := Lib.hid hc
  have hz : (c == 0) = false := by rw [beq_eq_false_iff_ne]; exact h0
  clear H1 H2 hc h0
  have HV := Lib.hid hv
  have HR := Lib.hid (fun (w5 : World) => @rows5 w (.string an) (.string ad) (.string bn) (.string bd) 111 29 116 hv w5)
  clear hv
  go_enter Tryz.func83, Tryz.ntmps83
  go_wp2_with (go_at_call 78; refine (multiplier_any _ _).mono ?_; rintro e w5 ⟨rfl, h5⟩; obtain ⟨C0, k1, k2, k3, k4, k5⟩ := HR.out w5 h5; clear h5)
  have hC0 := C0.drew
  clear C0
  have hk5 : w5.drew.heap[w.heap.size + 1 + 1]? = some (.cells #[.string ⟨#[]⟩, .string ⟨#[]⟩] 111 (0, 0)) := k5
  clear k5
  go_region_held3 (fun w' => w'.cell? ⟨w.heap.size, 0, none⟩ = some (.string an) ∧ w'.cell? ⟨w.heap.size, 1, none⟩ = some (.string ad) ∧ w'.cell? ⟨w.heap.size + 1, 0, none⟩ = some (.string bn) ∧ w'.cell? ⟨w.heap.size + 1, 1, none⟩ = some (.string bd))
    (((try go_split_ands); (and_intros) <;> first | assumption | exact tim_far (by assumption) (by omega) b2 | exact tim_far (by assumption) (by omega) b1 | (go_keep; done)))
    (first
      | (go_split_ands; go_at_call 115; (with_reducible refine (hC0.call _ _ r1 c1 c1 (if_pos rfl) J1.out).mono ?_); rintro e w6 ⟨rfl, b1⟩; have hC1 := hC0.after (by omega) (by omega) HV.out b1; have hk6 := tim_row hk5 (by omega) b1)
      | (go_split_ands; go_at_call 115; (with_reducible refine (hC1.call _ _ r2 c2 c HC.out J2.out).mono ?_); rintro e w7 ⟨rfl, b2⟩; have hC2 := hC1.after (by omega) (by omega) HV.out b2; have hk7 := tim_row hk6 (by omega) b2))
  have hq := hC2.hq
  have HC2 := Lib.hid hC2
  have HK := Lib.hid hk7
  obtain ⟨z1, z2, z3, z4⟩ := row2 hk7
  clear hC0 hC1 hC2 hk5 hk6 hk7 b1 b2 k1 k2 k3 k4
  go_wp2
  go_region
  all_goals
    go_wp2
    refine bodyPost_ret (v := .tuple #[.agg #[.string ⟨#[]⟩, .string ⟨#[]⟩], .int .i64 c]) (results_cell_tmp rfl _ _ (w.heap.size + 1 + 1) 111 #[.string ⟨#[]⟩, .string ⟨#[]⟩] (0, 0) _ (.int .i64 c) rfl rfl (sc_row _ _ HK.out) Tryz.underlying111 (by kernel_rfl) (by kernel_rfl)) rfl ⟨rfl, ?_⟩
    exact ((Below.drew HC2.out.bl).setCell (p := ⟨w.heap.size + 1 + 1, 0, none⟩) (by show w.heap.size ≤ w.heap.size + 1 + 1; omega) _).setCell (p := ⟨w.heap.size + 1 + 1, 1, none⟩) (by show w.heap.size ≤ w.heap.size + 1 + 1; omega) _
end Go.Proofs.YtbfimfjhdbpenaaGreatDoor
/- The walks of layer 2: sums and differences. -/
namespace Go.Proofs.YtbfimfjhdbpenaaGreatDoor
open Go Go.RowKit
theorem run_loadVar_cell {P : Program} (w : World) (ty : TypeId) (a : Addr) (u : Value) (d : TypeDesc) (hu : P.underlying ty = some d) (hd : (match d with | .struct _ | .array _ _ => true | _ => false) = false) (hc : w.cell? a = some u) : (loadVar ty a).run P w = .ok u w := by
  have hagg : (isAgg ty).run P w = .ok false w := by
    unfold isAgg
    rw [Sem.run_bind, run_underlying hu w]
    cases d <;> simp_all
  simp [loadVar, Sem.run_bind, hagg, hc]
theorem results_cell_cell {P : Program} {fn : Func} {p q : Tmp} {ty ty2 : TypeId} (h : fn.results = #[.cell p ty, .cell q ty2]) (tmps : Array Value) (w : World) (g : Nat) (t : TypeId) (cs : Array Value) (fr : Nat × Nat) (d d2 : TypeDesc) (g2 : Nat) (u : Value)
    (hp : tmps.getD p undef = .pointer (some ⟨g, 0, none⟩)) (hq : tmps.getD q undef = .pointer (some ⟨g2, 0, none⟩)) (hg : w.heap[g]? = some (.cells cs t fr)) (hc : w.cell? ⟨g2, 0, none⟩ = some u)
    (hu : P.underlying ty = some d) (hd : (match d with | .struct _ | .array _ _ => true | _ => false) = true) (hi : (P.info? ty).map (·.size) = some cs.size)
    (hu2 : P.underlying ty2 = some d2) (hd2 : (match d2 with | .struct _ | .array _ _ => true | _ => false) = false) :
    (results fn tmps).run P w = .ok (.tuple #[.agg cs, u]) w := by
  have hp' : tmps[p]?.getD undef = .pointer (some ⟨g, 0, none⟩) := by simpa using hp
  have hq' : tmps[q]?.getD undef = .pointer (some ⟨g2, 0, none⟩) := by simpa using hq
  simp [results, h, hp', hq', asAddr, run_loadVar_row w g t ty cs fr d hg hu hd hi, run_loadVar_cell w ty2 _ u d2 hu2 hd2 hc]
theorem tsc_a {w : World} {r q : Nat} {a b v1 v2 v : Value} {t : TypeId} (hne : q ≠ r) (h : w.heap[r]? = some (.cells #[a, b] t (0, 0))) : (((w.setCell ⟨r, 0, none⟩ v1).setCell ⟨r, 1, none⟩ v2).setCell ⟨q, 0, none⟩ v).heap[r]? = some (.cells #[v1, v2] t (0, 0)) := by
  have := sc_row v1 v2 h
  rw [World.setCell, Array.getElem?_modify, if_neg hne]; exact this
theorem tsc_b {w : World} {r q : Nat} {a b v1 v2 v : Value} {t : TypeId} (hne : q ≠ r) (h : w.heap[r]? = some (.cells #[a, b] t (0, 0))) : (((w.setCell ⟨q, 0, none⟩ v).setCell ⟨r, 0, none⟩ v1).setCell ⟨r, 1, none⟩ v2).heap[r]? = some (.cells #[v1, v2] t (0, 0)) := by
  refine sc_row (a := a) (b := b) v1 v2 ?_
  rw [World.setCell, Array.getElem?_modify, if_neg hne]; exact h
theorem tsq_a {w : World} {r q : Nat} {u v1 v2 v : Value} (hne : q ≠ r) (h : w.cell? ⟨q, 0, none⟩ = some u) : (((w.setCell ⟨r, 0, none⟩ v1).setCell ⟨r, 1, none⟩ v2).setCell ⟨q, 0, none⟩ v).cell? ⟨q, 0, none⟩ = some v :=
  World.cell?_setCell_same _ _ _ (u := u) (by rw [World.cell?_setCell_far _ _ _ _ (fun e => hne e.symm), World.cell?_setCell_far _ _ _ _ (fun e => hne e.symm)]; exact h)
theorem tsq_b {w : World} {r q : Nat} {u v1 v2 v : Value} (hne : q ≠ r) (h : w.cell? ⟨q, 0, none⟩ = some u) : (((w.setCell ⟨q, 0, none⟩ v).setCell ⟨r, 0, none⟩ v1).setCell ⟨r, 1, none⟩ v2).cell? ⟨q, 0, none⟩ = some v := by
  rw [World.cell?_setCell_far _ _ _ _ (fun e => hne e.symm), World.cell?_setCell_far _ _ _ _ (fun e => hne e.symm)]
  exact World.cell?_setCell_same _ _ _ h
theorem rowset {w : World} {r q : Nat} {cs : Array Value} {v : Value} {t : TypeId} (hne : q ≠ r) (h : w.heap[r]? = some (.cells cs t (0, 0))) : (w.setCell ⟨q, 0, none⟩ v).heap[r]? = some (.cells cs t (0, 0)) := by
  rw [World.setCell, Array.getElem?_modify, if_neg hne]; exact h
theorem tim_fz {w : World} {p : Addr} {v : Value} {a : Addr} (h : w.frozen? a = false) : (w.setCell p v).frozen? a = false := (by rw [World.frozen?_setCell] : (w.setCell p v).frozen? a = w.frozen? a).trans h
theorem tsw_a {N : Nat} {w0 w : World} {r q : Nat} {v1 v2 v : Value} (h1 : N ≤ r) (h2 : N ≤ q) (h : Below N w0 w) : Below N w0 (((w.setCell ⟨r, 0, none⟩ v1).setCell ⟨r, 1, none⟩ v2).setCell ⟨q, 0, none⟩ v) :=
  ((h.setCell (p := ⟨r, 0, none⟩) h1 _).setCell (p := ⟨r, 1, none⟩) h1 _).setCell (p := ⟨q, 0, none⟩) h2 _
theorem tsw_b {N : Nat} {w0 w : World} {r q : Nat} {v1 v2 v : Value} (h1 : N ≤ r) (h2 : N ≤ q) (h : Below N w0 w) : Below N w0 (((w.setCell ⟨q, 0, none⟩ v).setCell ⟨r, 0, none⟩ v1).setCell ⟨r, 1, none⟩ v2) :=
  ((h.setCell (p := ⟨q, 0, none⟩) h2 _).setCell (p := ⟨r, 0, none⟩) h1 _).setCell (p := ⟨r, 1, none⟩) h1 _
set_option maxRecDepth 100000 in
set_option maxHeartbeats 3200000 in
theorem combined_err (K : Nat) (an ad bn bd r1 r2 r3 : ByteArray) (c1 c2 c3 c12 c : Int) (hc12 : (if c1 = 0 then c2 else c1) = c12) (hc : (if c12 = 0 then c3 else c12) = c) (h0 : ¬ c = 0) (w : World) (hv : VarT w)
    (H1 : ∀ W, VarT W → Calls Tryz.prog 116 #[.string an, .string bd] W (StE r1 c1 W))
    (H2 : ∀ W, VarT W → Calls Tryz.prog 116 #[.string bn, .string ad] W (StE r2 c2 W))
    (H3 : ∀ W, VarT W → Calls Tryz.prog 116 #[.string ad, .string bd] W (StE r3 c3 W))
    : Calls Tryz.prog 124 #[.agg #[.string an, .string ad], .agg #[.string bn, .string bd], .func (.func K) #[] #[]] w (PrsR ⟨#[]⟩ ⟨#[]⟩ c w) := by
  have J1 := Lib.hid H1
  have J2 := Lib.hid H2
  have J3 := Lib.hid H3
  have HC12 := Lib.hid hc12
  have HC := Lib.hid hc
  have hz : (c == 0) = false := by rw [beq_eq_false_iff_ne]; exact h0
  clear H1 H2 H3 hc12 hc h0
  have HV := Lib.hid hv
  have HR := Lib.hid (fun (w5 : World) => @rows5 w (.string an) (.string ad) (.string bn) (.string bd) 111 29 116 hv w5)
  clear hv
  go_enter Tryz.func124, Tryz.ntmps124
  go_wp2_with (go_at_call 78; refine (multiplier_any _ _).mono ?_; rintro e w5 ⟨rfl, h5⟩; obtain ⟨C0, k1, k2, k3, k4, k5⟩ := HR.out w5 h5; clear h5)
  have hC0 := C0.drew
  clear C0
  have hk5 : w5.drew.heap[w.heap.size + 1 + 1]? = some (.cells #[.string ⟨#[]⟩, .string ⟨#[]⟩] 111 (0, 0)) := k5
  clear k5
  go_region_held3 (fun w' => w'.cell? ⟨w.heap.size, 0, none⟩ = some (.string an) ∧ w'.cell? ⟨w.heap.size, 1, none⟩ = some (.string ad) ∧ w'.cell? ⟨w.heap.size + 1, 0, none⟩ = some (.string bn) ∧ w'.cell? ⟨w.heap.size + 1, 1, none⟩ = some (.string bd))
    (((try go_split_ands); (and_intros) <;> first | assumption | exact tim_far (by assumption) (by omega) b3 | exact tim_far (by assumption) (by omega) b2 | exact tim_far (by assumption) (by omega) b1 | (go_keep; done)))
    (first
      | (go_split_ands; go_at_call 115; (with_reducible refine (hC0.call _ _ r1 c1 c1 (if_pos rfl) J1.out).mono ?_); rintro e w6 ⟨rfl, b1⟩; have hC1 := hC0.after (by omega) (by omega) HV.out b1; have hk6 := tim_row hk5 (by omega) b1)
      | (go_split_ands; go_at_call 115; (with_reducible refine (hC1.call _ _ r2 c2 c12 HC12.out J2.out).mono ?_); rintro e w7 ⟨rfl, b2⟩; have hC2 := hC1.after (by omega) (by omega) HV.out b2; have hk7 := tim_row hk6 (by omega) b2)
      | (go_split_ands; go_at_call 115; (with_reducible refine (hC2.call _ _ r3 c3 c HC.out J3.out).mono ?_); rintro e w8 ⟨rfl, b3⟩; have hC3 := hC2.after (by omega) (by omega) HV.out b3; have hk8 := tim_row hk7 (by omega) b3))
  have hq := hC3.hq
  have hqf := hC3.hf
  have HC3 := Lib.hid hC3
  have HK := Lib.hid hk8
  obtain ⟨z1, z2, z3, z4⟩ := row2 hk8
  clear hC0 hC1 hC2 hC3 hk5 hk6 hk7 hk8 b1 b2 b3 k1 k2 k3 k4
  go_wp2
  go_region
  all_goals
    go_wp2
    refine bodyPost_ret (v := .tuple #[.agg #[.string ⟨#[]⟩, .string ⟨#[]⟩], .int .i64 c]) (results_cell_cell rfl _ _ (w.heap.size + 1 + 1) 111 #[.string ⟨#[]⟩, .string ⟨#[]⟩] (0, 0) _ _ (w.heap.size + 1 + 1 + 1) (.int .i64 c) rfl rfl ((by first | exact tsc_a (by omega) HK.out | exact tsc_b (by omega) HK.out)) ((by first | exact tsq_a (by omega) hq | exact tsq_b (by omega) hq)) Tryz.underlying111 (by kernel_rfl) (by kernel_rfl) Tryz.underlying29 rfl) rfl ⟨rfl, ?_⟩
    first | exact tsw_a (by omega) (by omega) (Below.drew HC3.out.bl) | exact tsw_b (by omega) (by omega) (Below.drew HC3.out.bl)
set_option maxRecDepth 100000 in
set_option maxHeartbeats 3200000 in
theorem combined_add_jerr (an ad bn bd r1 r2 r3 r4 : ByteArray) (c : Int) (h0 : ¬ c = 0) (w : World) (hv : VarT w)
    (H1 : ∀ W, VarT W → Calls Tryz.prog 116 #[.string an, .string bd] W (StE r1 0 W))
    (H2 : ∀ W, VarT W → Calls Tryz.prog 116 #[.string bn, .string ad] W (StE r2 0 W))
    (H3 : ∀ W, VarT W → Calls Tryz.prog 116 #[.string ad, .string bd] W (StE r3 0 W))
    (H4 : ∀ W, VarT W → Calls Tryz.prog 125 #[.string r1, .string r2] W (StE r4 c W))
    : Calls Tryz.prog 124 #[.agg #[.string an, .string ad], .agg #[.string bn, .string bd], .func (.func 125) #[] #[]] w (PrsR ⟨#[]⟩ ⟨#[]⟩ c w) := by
  have J1 := Lib.hid H1
  have J2 := Lib.hid H2
  have J3 := Lib.hid H3
  have J4 := Lib.hid H4
  have hz : (c == 0) = false := by rw [beq_eq_false_iff_ne]; exact h0
  clear H1 H2 H3 H4 h0
  have HV := Lib.hid hv
  have HR := Lib.hid (fun (w5 : World) => @rows5 w (.string an) (.string ad) (.string bn) (.string bd) 111 29 116 hv w5)
  clear hv
  go_enter Tryz.func124, Tryz.ntmps124
  go_wp2_with (go_at_call 78; refine (multiplier_any _ _).mono ?_; rintro e w5 ⟨rfl, h5⟩; obtain ⟨C0, k1, k2, k3, k4, k5⟩ := HR.out w5 h5; clear h5)
  have hC0 := C0.drew
  clear C0
  have hk5 : w5.drew.heap[w.heap.size + 1 + 1]? = some (.cells #[.string ⟨#[]⟩, .string ⟨#[]⟩] 111 (0, 0)) := k5
  clear k5
  go_region_held3 (fun w' => w'.cell? ⟨w.heap.size, 0, none⟩ = some (.string an) ∧ w'.cell? ⟨w.heap.size, 1, none⟩ = some (.string ad) ∧ w'.cell? ⟨w.heap.size + 1, 0, none⟩ = some (.string bn) ∧ w'.cell? ⟨w.heap.size + 1, 1, none⟩ = some (.string bd))
    (((try go_split_ands); (and_intros) <;> first | assumption | exact tim_far (by assumption) (by omega) b3 | exact tim_far (by assumption) (by omega) b2 | exact tim_far (by assumption) (by omega) b1 | (go_keep; done)))
    (first
      | (go_split_ands; go_at_call 115; (with_reducible refine (hC0.call _ _ r1 0 0 rfl J1.out).mono ?_); rintro e w6 ⟨rfl, b1⟩; have hC1 := hC0.after (by omega) (by omega) HV.out b1; have hk6 := tim_row hk5 (by omega) b1)
      | (go_split_ands; go_at_call 115; (with_reducible refine (hC1.call _ _ r2 0 0 rfl J2.out).mono ?_); rintro e w7 ⟨rfl, b2⟩; have hC2 := hC1.after (by omega) (by omega) HV.out b2; have hk7 := tim_row hk6 (by omega) b2)
      | (go_split_ands; go_at_call 115; (with_reducible refine (hC2.call _ _ r3 0 0 rfl J3.out).mono ?_); rintro e w8 ⟨rfl, b3⟩; have hC3 := hC2.after (by omega) (by omega) HV.out b3; have hk8 := tim_row hk7 (by omega) b3))
  have hq := hC3.hq
  have hqf := hC3.hf
  have HC3 := Lib.hid hC3
  have HK := Lib.hid hk8
  obtain ⟨z1, z2, z3, z4⟩ := row2 hk8
  clear hC0 hC1 hC2 hC3 hk5 hk6 hk7 hk8 b1 b2 b3 k1 k2 k3 k4
  go_wp2_with ((go_at_call 125; refine (J4.out _ HC3.out.v).mono ?_; rintro e w9 ⟨rfl, b⟩; have D9 := Lib.hid (bt HC3.out.bl b); have hqf9 := (b.frozen (p := ⟨w.heap.size + 1 + 1 + 1, 0, none⟩) (World.block_lt_of_cell? _ _ hq)).trans hqf; have hq9 := (b.cell (p := ⟨w.heap.size + 1 + 1 + 1, 0, none⟩) (World.block_lt_of_cell? _ _ hq)).trans hq; have R := (b.block _ (lt_of_block HK.out)).trans HK.out; have HR9 := Lib.hid R; obtain ⟨k1, k2, k3, k4⟩ := row2 R; clear R b hq hqf z1 z2 z3 z4))
  go_region
  all_goals
    go_wp2
    refine bodyPost_ret (v := .tuple #[.agg #[.string ⟨#[]⟩, .string ⟨#[]⟩], .int .i64 c]) (results_cell_cell rfl _ _ (w.heap.size + 1 + 1) 111 #[.string ⟨#[]⟩, .string ⟨#[]⟩] (0, 0) _ _ (w.heap.size + 1 + 1 + 1) (.int .i64 c) rfl rfl ((by first | exact tsc_a (by omega) (rowset (by omega) HR9.out) | exact tsc_b (by omega) (rowset (by omega) HR9.out))) ((by first | exact tsq_a (by omega) (World.cell?_setCell_same _ _ _ hq9) | exact tsq_b (by omega) (World.cell?_setCell_same _ _ _ hq9))) Tryz.underlying111 (by kernel_rfl) (by kernel_rfl) Tryz.underlying29 rfl) rfl ⟨rfl, ?_⟩
    first | exact tsw_a (by omega) (by omega) (Below.drew (D9.out.setCell (p := ⟨w.heap.size + 1 + 1 + 1, 0, none⟩) (by show w.heap.size ≤ w.heap.size + 1 + 1 + 1; omega) _)) | exact tsw_b (by omega) (by omega) (Below.drew (D9.out.setCell (p := ⟨w.heap.size + 1 + 1 + 1, 0, none⟩) (by show w.heap.size ≤ w.heap.size + 1 + 1 + 1; omega) _))
set_option maxRecDepth 100000 in
set_option maxHeartbeats 3200000 in
theorem combined_add_ok (an ad bn bd r1 r2 r3 r4 N D : ByteArray) (w : World) (hv : VarT w)
    (H1 : ∀ W, VarT W → Calls Tryz.prog 116 #[.string an, .string bd] W (StE r1 0 W))
    (H2 : ∀ W, VarT W → Calls Tryz.prog 116 #[.string bn, .string ad] W (StE r2 0 W))
    (H3 : ∀ W, VarT W → Calls Tryz.prog 116 #[.string ad, .string bd] W (StE r3 0 W))
    (H4 : ∀ W, VarT W → Calls Tryz.prog 125 #[.string r1, .string r2] W (StE r4 0 W))
    (H5 : ∀ W, VarT W → Calls Tryz.prog 127 #[.string r4, .string r3] W (FraR N D W))
    : Calls Tryz.prog 124 #[.agg #[.string an, .string ad], .agg #[.string bn, .string bd], .func (.func 125) #[] #[]] w (PrsR N D 0 w) := by
  have J1 := Lib.hid H1
  have J2 := Lib.hid H2
  have J3 := Lib.hid H3
  have J4 := Lib.hid H4
  have J5 := Lib.hid H5
  clear H1 H2 H3 H4 H5
  have HV := Lib.hid hv
  have HR := Lib.hid (fun (w5 : World) => @rows5 w (.string an) (.string ad) (.string bn) (.string bd) 111 29 116 hv w5)
  clear hv
  go_enter Tryz.func124, Tryz.ntmps124
  go_wp2_with (go_at_call 78; refine (multiplier_any _ _).mono ?_; rintro e w5 ⟨rfl, h5⟩; obtain ⟨C0, k1, k2, k3, k4, k5⟩ := HR.out w5 h5; clear h5)
  have hC0 := C0.drew
  clear C0
  have hk5 : w5.drew.heap[w.heap.size + 1 + 1]? = some (.cells #[.string ⟨#[]⟩, .string ⟨#[]⟩] 111 (0, 0)) := k5
  clear k5
  go_region_held3 (fun w' => w'.cell? ⟨w.heap.size, 0, none⟩ = some (.string an) ∧ w'.cell? ⟨w.heap.size, 1, none⟩ = some (.string ad) ∧ w'.cell? ⟨w.heap.size + 1, 0, none⟩ = some (.string bn) ∧ w'.cell? ⟨w.heap.size + 1, 1, none⟩ = some (.string bd))
    (((try go_split_ands); (and_intros) <;> first | assumption | exact tim_far (by assumption) (by omega) b3 | exact tim_far (by assumption) (by omega) b2 | exact tim_far (by assumption) (by omega) b1 | (go_keep; done)))
    (first
      | (go_split_ands; go_at_call 115; (with_reducible refine (hC0.call _ _ r1 0 0 rfl J1.out).mono ?_); rintro e w6 ⟨rfl, b1⟩; have hC1 := hC0.after (by omega) (by omega) HV.out b1; have hk6 := tim_row hk5 (by omega) b1)
      | (go_split_ands; go_at_call 115; (with_reducible refine (hC1.call _ _ r2 0 0 rfl J2.out).mono ?_); rintro e w7 ⟨rfl, b2⟩; have hC2 := hC1.after (by omega) (by omega) HV.out b2; have hk7 := tim_row hk6 (by omega) b2)
      | (go_split_ands; go_at_call 115; (with_reducible refine (hC2.call _ _ r3 0 0 rfl J3.out).mono ?_); rintro e w8 ⟨rfl, b3⟩; have hC3 := hC2.after (by omega) (by omega) HV.out b3; have hk8 := tim_row hk7 (by omega) b3))
  have hq := hC3.hq
  have hqf := hC3.hf
  have HC3 := Lib.hid hC3
  have HK := Lib.hid hk8
  obtain ⟨z1, z2, z3, z4⟩ := row2 hk8
  clear hC0 hC1 hC2 hC3 hk5 hk6 hk7 hk8 b1 b2 b3 k1 k2 k3 k4
  go_wp2_with (first
    | (go_at_call 125; refine (J4.out _ HC3.out.v).mono ?_; rintro e w9 ⟨rfl, b⟩; have D9 := Lib.hid (bt HC3.out.bl b); have hqf9 := (b.frozen (p := ⟨w.heap.size + 1 + 1 + 1, 0, none⟩) (World.block_lt_of_cell? _ _ hq)).trans hqf; have hq9 := (b.cell (p := ⟨w.heap.size + 1 + 1 + 1, 0, none⟩) (World.block_lt_of_cell? _ _ hq)).trans hq; have R := (b.block _ (lt_of_block HK.out)).trans HK.out; have HR9 := Lib.hid R; obtain ⟨k1, k2, k3, k4⟩ := row2 R; clear R b hq hqf z1 z2 z3 z4)
    | (go_at_call 127; refine (J5.out _ (HV.out.below (D9.out.setCell (p := ⟨w.heap.size + 1 + 1 + 1, 0, none⟩) (by show w.heap.size ≤ w.heap.size + 1 + 1 + 1; omega) _))).mono ?_; rintro e w10 ⟨rfl, b⟩
       have D10 := Lib.hid (bt (D9.out.setCell (p := ⟨w.heap.size + 1 + 1 + 1, 0, none⟩) (by show w.heap.size ≤ w.heap.size + 1 + 1 + 1; omega) _) b)
       have RS := rowset (v := .int .i64 0) (q := w.heap.size + 1 + 1 + 1) (by omega) HR9.out
       have CS := World.cell?_setCell_same _ _ (.int .i64 0) hq9
       have hqfA := (b.frozen (p := ⟨w.heap.size + 1 + 1 + 1, 0, none⟩) (World.block_lt_of_cell? _ _ CS)).trans (tim_fz hqf9)
       have hqA := (b.cell (p := ⟨w.heap.size + 1 + 1 + 1, 0, none⟩) (World.block_lt_of_cell? _ _ CS)).trans CS
       have R := (b.block _ (lt_of_block RS)).trans RS
       have HRA := Lib.hid R
       obtain ⟨m1, m2, m3, m4⟩ := row2 R
       clear R b RS CS hq9 hqf9 k1 k2 k3 k4))
  refine bodyPost_ret (v := .tuple #[.agg #[.string N, .string D], .int .i64 0]) (results_cell_cell rfl _ _ (w.heap.size + 1 + 1) 111 #[.string N, .string D] (0, 0) _ _ (w.heap.size + 1 + 1 + 1) (.int .i64 0) rfl rfl ((by first | exact tsc_a (by omega) HRA.out | exact tsc_b (by omega) HRA.out)) ((by first | exact tsq_a (by omega) hqA | exact tsq_b (by omega) hqA)) Tryz.underlying111 (by kernel_rfl) (by kernel_rfl) Tryz.underlying29 rfl) rfl ⟨rfl, ?_⟩
  first | exact tsw_a (by omega) (by omega) (D10.out) | exact tsw_b (by omega) (by omega) (D10.out)
set_option maxRecDepth 100000 in
set_option maxHeartbeats 3200000 in
theorem combined_sub_jerr (an ad bn bd r1 r2 r3 r4 : ByteArray) (c : Int) (h0 : ¬ c = 0) (w : World) (hv : VarT w)
    (H1 : ∀ W, VarT W → Calls Tryz.prog 116 #[.string an, .string bd] W (StE r1 0 W))
    (H2 : ∀ W, VarT W → Calls Tryz.prog 116 #[.string bn, .string ad] W (StE r2 0 W))
    (H3 : ∀ W, VarT W → Calls Tryz.prog 116 #[.string ad, .string bd] W (StE r3 0 W))
    (H4 : ∀ W, VarT W → Calls Tryz.prog 126 #[.string r1, .string r2] W (StE r4 c W))
    : Calls Tryz.prog 124 #[.agg #[.string an, .string ad], .agg #[.string bn, .string bd], .func (.func 126) #[] #[]] w (PrsR ⟨#[]⟩ ⟨#[]⟩ c w) := by
  have J1 := Lib.hid H1
  have J2 := Lib.hid H2
  have J3 := Lib.hid H3
  have J4 := Lib.hid H4
  have hz : (c == 0) = false := by rw [beq_eq_false_iff_ne]; exact h0
  clear H1 H2 H3 H4 h0
  have HV := Lib.hid hv
  have HR := Lib.hid (fun (w5 : World) => @rows5 w (.string an) (.string ad) (.string bn) (.string bd) 111 29 116 hv w5)
  clear hv
  go_enter Tryz.func124, Tryz.ntmps124
  go_wp2_with (go_at_call 78; refine (multiplier_any _ _).mono ?_; rintro e w5 ⟨rfl, h5⟩; obtain ⟨C0, k1, k2, k3, k4, k5⟩ := HR.out w5 h5; clear h5)
  have hC0 := C0.drew
  clear C0
  have hk5 : w5.drew.heap[w.heap.size + 1 + 1]? = some (.cells #[.string ⟨#[]⟩, .string ⟨#[]⟩] 111 (0, 0)) := k5
  clear k5
  go_region_held3 (fun w' => w'.cell? ⟨w.heap.size, 0, none⟩ = some (.string an) ∧ w'.cell? ⟨w.heap.size, 1, none⟩ = some (.string ad) ∧ w'.cell? ⟨w.heap.size + 1, 0, none⟩ = some (.string bn) ∧ w'.cell? ⟨w.heap.size + 1, 1, none⟩ = some (.string bd))
    (((try go_split_ands); (and_intros) <;> first | assumption | exact tim_far (by assumption) (by omega) b3 | exact tim_far (by assumption) (by omega) b2 | exact tim_far (by assumption) (by omega) b1 | (go_keep; done)))
    (first
      | (go_split_ands; go_at_call 115; (with_reducible refine (hC0.call _ _ r1 0 0 rfl J1.out).mono ?_); rintro e w6 ⟨rfl, b1⟩; have hC1 := hC0.after (by omega) (by omega) HV.out b1; have hk6 := tim_row hk5 (by omega) b1)
      | (go_split_ands; go_at_call 115; (with_reducible refine (hC1.call _ _ r2 0 0 rfl J2.out).mono ?_); rintro e w7 ⟨rfl, b2⟩; have hC2 := hC1.after (by omega) (by omega) HV.out b2; have hk7 := tim_row hk6 (by omega) b2)
      | (go_split_ands; go_at_call 115; (with_reducible refine (hC2.call _ _ r3 0 0 rfl J3.out).mono ?_); rintro e w8 ⟨rfl, b3⟩; have hC3 := hC2.after (by omega) (by omega) HV.out b3; have hk8 := tim_row hk7 (by omega) b3))
  have hq := hC3.hq
  have hqf := hC3.hf
  have HC3 := Lib.hid hC3
  have HK := Lib.hid hk8
  obtain ⟨z1, z2, z3, z4⟩ := row2 hk8
  clear hC0 hC1 hC2 hC3 hk5 hk6 hk7 hk8 b1 b2 b3 k1 k2 k3 k4
  go_wp2_with ((go_at_call 126; refine (J4.out _ HC3.out.v).mono ?_; rintro e w9 ⟨rfl, b⟩; have D9 := Lib.hid (bt HC3.out.bl b); have hqf9 := (b.frozen (p := ⟨w.heap.size + 1 + 1 + 1, 0, none⟩) (World.block_lt_of_cell? _ _ hq)).trans hqf; have hq9 := (b.cell (p := ⟨w.heap.size + 1 + 1 + 1, 0, none⟩) (World.block_lt_of_cell? _ _ hq)).trans hq; have R := (b.block _ (lt_of_block HK.out)).trans HK.out; have HR9 := Lib.hid R; obtain ⟨k1, k2, k3, k4⟩ := row2 R; clear R b hq hqf z1 z2 z3 z4))
  go_region
  all_goals
    go_wp2
    refine bodyPost_ret (v := .tuple #[.agg #[.string ⟨#[]⟩, .string ⟨#[]⟩], .int .i64 c]) (results_cell_cell rfl _ _ (w.heap.size + 1 + 1) 111 #[.string ⟨#[]⟩, .string ⟨#[]⟩] (0, 0) _ _ (w.heap.size + 1 + 1 + 1) (.int .i64 c) rfl rfl ((by first | exact tsc_a (by omega) (rowset (by omega) HR9.out) | exact tsc_b (by omega) (rowset (by omega) HR9.out))) ((by first | exact tsq_a (by omega) (World.cell?_setCell_same _ _ _ hq9) | exact tsq_b (by omega) (World.cell?_setCell_same _ _ _ hq9))) Tryz.underlying111 (by kernel_rfl) (by kernel_rfl) Tryz.underlying29 rfl) rfl ⟨rfl, ?_⟩
    first | exact tsw_a (by omega) (by omega) (Below.drew (D9.out.setCell (p := ⟨w.heap.size + 1 + 1 + 1, 0, none⟩) (by show w.heap.size ≤ w.heap.size + 1 + 1 + 1; omega) _)) | exact tsw_b (by omega) (by omega) (Below.drew (D9.out.setCell (p := ⟨w.heap.size + 1 + 1 + 1, 0, none⟩) (by show w.heap.size ≤ w.heap.size + 1 + 1 + 1; omega) _))
set_option maxRecDepth 100000 in
set_option maxHeartbeats 3200000 in
theorem combined_sub_ok (an ad bn bd r1 r2 r3 r4 N D : ByteArray) (w : World) (hv : VarT w)
    (H1 : ∀ W, VarT W → Calls Tryz.prog 116 #[.string an, .string bd] W (StE r1 0 W))
    (H2 : ∀ W, VarT W → Calls Tryz.prog 116 #[.string bn, .string ad] W (StE r2 0 W))
    (H3 : ∀ W, VarT W → Calls Tryz.prog 116 #[.string ad, .string bd] W (StE r3 0 W))
    (H4 : ∀ W, VarT W → Calls Tryz.prog 126 #[.string r1, .string r2] W (StE r4 0 W))
    (H5 : ∀ W, VarT W → Calls Tryz.prog 127 #[.string r4, .string r3] W (FraR N D W))
    : Calls Tryz.prog 124 #[.agg #[.string an, .string ad], .agg #[.string bn, .string bd], .func (.func 126) #[] #[]] w (PrsR N D 0 w) := by
  have J1 := Lib.hid H1
  have J2 := Lib.hid H2
  have J3 := Lib.hid H3
  have J4 := Lib.hid H4
  have J5 := Lib.hid H5
  clear H1 H2 H3 H4 H5
  have HV := Lib.hid hv
  have HR := Lib.hid (fun (w5 : World) => @rows5 w (.string an) (.string ad) (.string bn) (.string bd) 111 29 116 hv w5)
  clear hv
  go_enter Tryz.func124, Tryz.ntmps124
  go_wp2_with (go_at_call 78; refine (multiplier_any _ _).mono ?_; rintro e w5 ⟨rfl, h5⟩; obtain ⟨C0, k1, k2, k3, k4, k5⟩ := HR.out w5 h5; clear h5)
  have hC0 := C0.drew
  clear C0
  have hk5 : w5.drew.heap[w.heap.size + 1 + 1]? = some (.cells #[.string ⟨#[]⟩, .string ⟨#[]⟩] 111 (0, 0)) := k5
  clear k5
  go_region_held3 (fun w' => w'.cell? ⟨w.heap.size, 0, none⟩ = some (.string an) ∧ w'.cell? ⟨w.heap.size, 1, none⟩ = some (.string ad) ∧ w'.cell? ⟨w.heap.size + 1, 0, none⟩ = some (.string bn) ∧ w'.cell? ⟨w.heap.size + 1, 1, none⟩ = some (.string bd))
    (((try go_split_ands); (and_intros) <;> first | assumption | exact tim_far (by assumption) (by omega) b3 | exact tim_far (by assumption) (by omega) b2 | exact tim_far (by assumption) (by omega) b1 | (go_keep; done)))
    (first
      | (go_split_ands; go_at_call 115; (with_reducible refine (hC0.call _ _ r1 0 0 rfl J1.out).mono ?_); rintro e w6 ⟨rfl, b1⟩; have hC1 := hC0.after (by omega) (by omega) HV.out b1; have hk6 := tim_row hk5 (by omega) b1)
      | (go_split_ands; go_at_call 115; (with_reducible refine (hC1.call _ _ r2 0 0 rfl J2.out).mono ?_); rintro e w7 ⟨rfl, b2⟩; have hC2 := hC1.after (by omega) (by omega) HV.out b2; have hk7 := tim_row hk6 (by omega) b2)
      | (go_split_ands; go_at_call 115; (with_reducible refine (hC2.call _ _ r3 0 0 rfl J3.out).mono ?_); rintro e w8 ⟨rfl, b3⟩; have hC3 := hC2.after (by omega) (by omega) HV.out b3; have hk8 := tim_row hk7 (by omega) b3))
  have hq := hC3.hq
  have hqf := hC3.hf
  have HC3 := Lib.hid hC3
  have HK := Lib.hid hk8
  obtain ⟨z1, z2, z3, z4⟩ := row2 hk8
  clear hC0 hC1 hC2 hC3 hk5 hk6 hk7 hk8 b1 b2 b3 k1 k2 k3 k4
  go_wp2_with (first
    | (go_at_call 126; refine (J4.out _ HC3.out.v).mono ?_; rintro e w9 ⟨rfl, b⟩; have D9 := Lib.hid (bt HC3.out.bl b); have hqf9 := (b.frozen (p := ⟨w.heap.size + 1 + 1 + 1, 0, none⟩) (World.block_lt_of_cell? _ _ hq)).trans hqf; have hq9 := (b.cell (p := ⟨w.heap.size + 1 + 1 + 1, 0, none⟩) (World.block_lt_of_cell? _ _ hq)).trans hq; have R := (b.block _ (lt_of_block HK.out)).trans HK.out; have HR9 := Lib.hid R; obtain ⟨k1, k2, k3, k4⟩ := row2 R; clear R b hq hqf z1 z2 z3 z4)
    | (go_at_call 127; refine (J5.out _ (HV.out.below (D9.out.setCell (p := ⟨w.heap.size + 1 + 1 + 1, 0, none⟩) (by show w.heap.size ≤ w.heap.size + 1 + 1 + 1; omega) _))).mono ?_; rintro e w10 ⟨rfl, b⟩
       have D10 := Lib.hid (bt (D9.out.setCell (p := ⟨w.heap.size + 1 + 1 + 1, 0, none⟩) (by show w.heap.size ≤ w.heap.size + 1 + 1 + 1; omega) _) b)
       have RS := rowset (v := .int .i64 0) (q := w.heap.size + 1 + 1 + 1) (by omega) HR9.out
       have CS := World.cell?_setCell_same _ _ (.int .i64 0) hq9
       have hqfA := (b.frozen (p := ⟨w.heap.size + 1 + 1 + 1, 0, none⟩) (World.block_lt_of_cell? _ _ CS)).trans (tim_fz hqf9)
       have hqA := (b.cell (p := ⟨w.heap.size + 1 + 1 + 1, 0, none⟩) (World.block_lt_of_cell? _ _ CS)).trans CS
       have R := (b.block _ (lt_of_block RS)).trans RS
       have HRA := Lib.hid R
       obtain ⟨m1, m2, m3, m4⟩ := row2 R
       clear R b RS CS hq9 hqf9 k1 k2 k3 k4))
  refine bodyPost_ret (v := .tuple #[.agg #[.string N, .string D], .int .i64 0]) (results_cell_cell rfl _ _ (w.heap.size + 1 + 1) 111 #[.string N, .string D] (0, 0) _ _ (w.heap.size + 1 + 1 + 1) (.int .i64 0) rfl rfl ((by first | exact tsc_a (by omega) HRA.out | exact tsc_b (by omega) HRA.out)) ((by first | exact tsq_a (by omega) hqA | exact tsq_b (by omega) hqA)) Tryz.underlying111 (by kernel_rfl) (by kernel_rfl) Tryz.underlying29 rfl) rfl ⟨rfl, ?_⟩
  first | exact tsw_a (by omega) (by omega) (D10.out) | exact tsw_b (by omega) (by omega) (D10.out)
end Go.Proofs.YtbfimfjhdbpenaaGreatDoor
/- Joined: RatW, RatX, RatY, RatZ. -/
/- The walks of layer 2: inverse, quotient. -/
namespace Go.Proofs.YtbfimfjhdbpenaaGreatDoor
open Go Go.RowKit
theorem rows3 (w : World) (a b c d : Value) (t : TypeId) {w3 : World}
    (h3 : (((w.alloc (.cells #[a, b] t (0, 0))).alloc (.cells #[c, d] t (0, 0))).alloc (.cells #[.string ⟨#[]⟩, .string ⟨#[]⟩] t (0, 0))) = w3) :
    Below w.heap.size w w3 ∧ w.heap.size + 3 ≤ w3.heap.size ∧
    w3.cell? ⟨w.heap.size, 0, none⟩ = some a ∧ w3.cell? ⟨w.heap.size, 1, none⟩ = some b ∧ w3.cell? ⟨w.heap.size + 1, 0, none⟩ = some c ∧ w3.cell? ⟨w.heap.size + 1, 1, none⟩ = some d ∧
    w3.heap[w.heap.size + 1 + 1]? = some (.cells #[.string ⟨#[]⟩, .string ⟨#[]⟩] t (0, 0)) := by
  have hh : w3.heap = (((w.heap.push (.cells #[a, b] t (0, 0))).push (.cells #[c, d] t (0, 0))).push (.cells #[.string ⟨#[]⟩, .string ⟨#[]⟩] t (0, 0))) := by subst h3; rfl
  have B : Below w.heap.size w w3 := by
    subst h3
    exact (((Below.refl _ w).alloc (Nat.le_refl _) _).alloc (by simp) _).alloc (by simp; omega) _
  clear h3
  have g0 : w3.heap[w.heap.size]? = some (.cells #[a, b] t (0, 0)) := by
    rw [hh]; simp only [Array.getElem?_push, Array.size_push]
    rw [if_neg (by omega), if_neg (by omega), if_pos trivial]
  have g1 : w3.heap[w.heap.size + 1]? = some (.cells #[c, d] t (0, 0)) := by
    rw [hh]; simp only [Array.getElem?_push, Array.size_push]
    rw [if_neg (by omega), if_pos trivial]
  have g2 : w3.heap[w.heap.size + 1 + 1]? = some (.cells #[.string ⟨#[]⟩, .string ⟨#[]⟩] t (0, 0)) := by
    rw [hh]; simp only [Array.getElem?_push, Array.size_push]
    rw [if_pos trivial]
  have hs : w.heap.size + 3 ≤ w3.heap.size := by rw [hh]; simp
  clear hh
  obtain ⟨k1, k2, _, _⟩ := row2 g0
  obtain ⟨k3, k4, _, _⟩ := row2 g1
  exact ⟨B, hs, k1, k2, k3, k4, g2⟩
end Go.Proofs.YtbfimfjhdbpenaaGreatDoor
/- The walks of layer 2: parseTwo, calculate, Add, Sub, Mul, Div. -/
namespace Go.Proofs.YtbfimfjhdbpenaaGreatDoor
open Go Go.RowKit
set_option maxHeartbeats 2000000 in
theorem results_cells_tmp {P : Program} {fn : Func} {p r q : Tmp} {ty : TypeId} (h : fn.results = #[.cell p ty, .cell r ty, .tmp q]) (tmps : Array Value) (w : World) (g g2 : Nat) (t : TypeId) (cs cs2 : Array Value) (fr : Nat × Nat) (d : TypeDesc) (u : Value) (hq : tmps.getD q undef = u)
    (hp : tmps.getD p undef = .pointer (some ⟨g, 0, none⟩)) (hr : tmps.getD r undef = .pointer (some ⟨g2, 0, none⟩)) (hg : w.heap[g]? = some (.cells cs t fr)) (hg2 : w.heap[g2]? = some (.cells cs2 t fr))
    (hu : P.underlying ty = some d) (hd : (match d with | .struct _ | .array _ _ => true | _ => false) = true) (hi : (P.info? ty).map (·.size) = some cs.size) (hi2 : (P.info? ty).map (·.size) = some cs2.size) :
    (results fn tmps).run P w = .ok (.tuple #[.agg cs, .agg cs2, u]) w := by
  subst hq
  have hp' : tmps[p]?.getD undef = .pointer (some ⟨g, 0, none⟩) := by simpa using hp
  have hr' : tmps[r]?.getD undef = .pointer (some ⟨g2, 0, none⟩) := by simpa using hr
  simp [results, h, hp', hr', asAddr, run_loadVar_row w g t ty cs fr d hg hu hd hi, run_loadVar_row w g2 t ty cs2 fr d hg2 hu hd hi2]
def TwoF (n1 d1 n2 d2 : ByteArray) (c : Int) (w : World) (e : Ending) (w' : World) : Prop := e = .returned (.tuple #[.agg #[.string n1, .string d1], .agg #[.string n2, .string d2], .int .i64 c]) ∧ Below w.heap.size w w'
theorem rows2 (w : World) (t : TypeId) {w2 : World} (h2 : (w.alloc (.cells #[.string ⟨#[]⟩, .string ⟨#[]⟩] t (0, 0))).alloc (.cells #[.string ⟨#[]⟩, .string ⟨#[]⟩] t (0, 0)) = w2) :
    Below w.heap.size w w2 ∧ w2.heap[w.heap.size]? = some (.cells #[.string ⟨#[]⟩, .string ⟨#[]⟩] t (0, 0)) ∧ w2.heap[w.heap.size + 1]? = some (.cells #[.string ⟨#[]⟩, .string ⟨#[]⟩] t (0, 0)) := by
  have hh : w2.heap = ((w.heap.push (.cells #[.string ⟨#[]⟩, .string ⟨#[]⟩] t (0, 0))).push (.cells #[.string ⟨#[]⟩, .string ⟨#[]⟩] t (0, 0))) := by subst h2; rfl
  refine ⟨by subst h2; exact ((Below.refl _ w).alloc (Nat.le_refl _) _).alloc (by simp) _, ?_, ?_⟩
  · rw [hh]; simp only [Array.getElem?_push, Array.size_push]; rw [if_neg (by omega), if_pos trivial]
  · rw [hh]; simp only [Array.getElem?_push, Array.size_push]; rw [if_pos trivial]
theorem row_sc2 {w : World} {r q : Nat} {cs : Array Value} {t : TypeId} {v1 v2 : Value} (hne : q ≠ r) (h : w.heap[r]? = some (.cells cs t (0, 0))) : ((w.setCell ⟨q, 0, none⟩ v1).setCell ⟨q, 1, none⟩ v2).heap[r]? = some (.cells cs t (0, 0)) := by
  rw [World.setCell, Array.getElem?_modify, if_neg hne, World.setCell, Array.getElem?_modify, if_neg hne]; exact h
theorem row_dr {w : World} {r : Nat} {o : Obj} (h : w.heap[r]? = some o) : w.drew.heap[r]? = some o := h
theorem bel_sc2 {N : Nat} {w0 w : World} {q : Nat} {v1 v2 : Value} (h : N ≤ q) (hb : Below N w0 w) : Below N w0 ((w.setCell ⟨q, 0, none⟩ v1).setCell ⟨q, 1, none⟩ v2) :=
  (hb.setCell (p := ⟨q, 0, none⟩) h _).setCell (p := ⟨q, 1, none⟩) h _
section
variable (s t : ByteArray) (w : World) (hv : VarR w)
include hv
set_option maxRecDepth 100000 in
set_option maxHeartbeats 1600000 in
theorem parseTwo_one (a b : ByteArray) (c : Int) (h0 : ¬ c = 0)
    (H1 : ∀ W, VarR W → Calls Tryz.prog 96 #[.string s] W (PrsR a b c W)) :
    Calls Tryz.prog 77 #[.string s, .string t] w (TwoF ⟨#[]⟩ ⟨#[]⟩ ⟨#[]⟩ ⟨#[]⟩ c w) := by
  have J1 := Lib.hid H1
  have HV := Lib.hid hv
  have hz : (c == 0) = false := by rw [beq_eq_false_iff_ne]; exact h0
  have HR := Lib.hid (fun (w2 : World) => @rows2 w 111 w2)
  clear H1 hv h0
  go_enter Tryz.func77, Tryz.ntmps77
  go_wp2_with (go_at_call 96; obtain ⟨B2, g1, g2⟩ := HR.out _ rfl; refine (J1.out _ (HV.out.below B2)).mono ?_; rintro e w3 ⟨rfl, b⟩; have R1 := Lib.hid ((b.block _ (lt_of_block g1)).trans g1); have R2 := Lib.hid ((b.block _ (lt_of_block g2)).trans g2); have B3 := Lib.hid (bt B2 b); obtain ⟨k1, k2, k3, k4⟩ := row2 R1.out; obtain ⟨k5, k6, k7, k8⟩ := row2 R2.out; clear B2 g1 g2 b)
  refine bodyPost_ret (v := .tuple #[.agg #[.string ⟨#[]⟩, .string ⟨#[]⟩], .agg #[.string ⟨#[]⟩, .string ⟨#[]⟩], .int .i64 c]) (results_cells_tmp rfl _ _ w.heap.size (w.heap.size + 1) 111 #[.string ⟨#[]⟩, .string ⟨#[]⟩] #[.string ⟨#[]⟩, .string ⟨#[]⟩] (0, 0) _ (.int .i64 c) rfl rfl rfl ?_ ?_ Tryz.underlying111 (by kernel_rfl) (by kernel_rfl) (by kernel_rfl)) rfl ⟨rfl, ?_⟩
  · exact row_sc2 (by omega) (sc_row _ _ (sc_row _ _ R1.out))
  · exact sc_row _ _ (row_sc2 (by omega) (row_sc2 (by omega) R2.out))
  · exact bel_sc2 (by omega) (bel_sc2 (by omega) (bel_sc2 (by omega) B3.out))
set_option maxRecDepth 100000 in
set_option maxHeartbeats 1600000 in
theorem parseTwo_two (a d a2 d2 : ByteArray) (c : Int) (h0 : ¬ c = 0)
    (H1 : ∀ W, VarR W → Calls Tryz.prog 96 #[.string s] W (PrsR a d 0 W))
    (H2 : ∀ W, VarR W → Calls Tryz.prog 96 #[.string t] W (PrsR a2 d2 c W)) :
    Calls Tryz.prog 77 #[.string s, .string t] w (TwoF ⟨#[]⟩ ⟨#[]⟩ ⟨#[]⟩ ⟨#[]⟩ c w) := by
  have J1 := Lib.hid H1
  have J2 := Lib.hid H2
  have HV := Lib.hid hv
  have hz : (c == 0) = false := by rw [beq_eq_false_iff_ne]; exact h0
  have HR := Lib.hid (fun (w2 : World) => @rows2 w 111 w2)
  clear H1 H2 hv h0
  go_enter Tryz.func77, Tryz.ntmps77
  go_wp2_with (first
    | (go_at_call 96; obtain ⟨B2, g1, g2⟩ := HR.out _ rfl; (with_reducible refine (J1.out _ (HV.out.below B2)).mono ?_); rintro e w3 ⟨rfl, b⟩; have R1 := Lib.hid ((b.block _ (lt_of_block g1)).trans g1); have R2 := Lib.hid ((b.block _ (lt_of_block g2)).trans g2); have B3 := Lib.hid (bt B2 b); obtain ⟨k1, k2, k3, k4⟩ := row2 R1.out; obtain ⟨k5, k6, k7, k8⟩ := row2 R2.out; clear B2 g1 g2 b)
    | (go_at_call 96; (with_reducible refine (J2.out _ (HV.out.below (bel_sc2 (Nat.le_refl _) B3.out))).mono ?_); rintro e w4 ⟨rfl, b⟩
       have g1 := sc_row (.string a) (.string d) R1.out
       have g2 := row_sc2 (v1 := .string a) (v2 := .string d) (Nat.ne_of_lt (Nat.lt_succ_self _)) R2.out
       have R3 := Lib.hid ((b.block _ (lt_of_block g1)).trans g1)
       have R4 := Lib.hid ((b.block _ (lt_of_block g2)).trans g2)
       have B4 := Lib.hid (bt (bel_sc2 (q := w.heap.size) (v1 := .string a) (v2 := .string d) (Nat.le_refl _) B3.out) b)
       obtain ⟨m1, m2, m3, m4⟩ := row2 R3.out
       obtain ⟨m5, m6, m7, m8⟩ := row2 R4.out
       clear g1 g2 b k1 k2 k3 k4 k5 k6 k7 k8))
  refine bodyPost_ret (v := .tuple #[.agg #[.string ⟨#[]⟩, .string ⟨#[]⟩], .agg #[.string ⟨#[]⟩, .string ⟨#[]⟩], .int .i64 c]) (results_cells_tmp rfl _ _ w.heap.size (w.heap.size + 1) 111 #[.string ⟨#[]⟩, .string ⟨#[]⟩] #[.string ⟨#[]⟩, .string ⟨#[]⟩] (0, 0) _ (.int .i64 c) rfl rfl rfl ?_ ?_ Tryz.underlying111 (by kernel_rfl) (by kernel_rfl) (by kernel_rfl)) rfl ⟨rfl, ?_⟩
  · exact row_sc2 (by omega) (sc_row _ _ (row_sc2 (by omega) R3.out))
  · exact sc_row _ _ (row_sc2 (by omega) (sc_row _ _ R4.out))
  · exact bel_sc2 (by omega) (bel_sc2 (by omega) (bel_sc2 (by omega) B4.out))
set_option maxRecDepth 100000 in
set_option maxHeartbeats 1600000 in
theorem parseTwo_ok (a d a2 d2 : ByteArray)
    (H1 : ∀ W, VarR W → Calls Tryz.prog 96 #[.string s] W (PrsR a d 0 W))
    (H2 : ∀ W, VarR W → Calls Tryz.prog 96 #[.string t] W (PrsR a2 d2 0 W)) :
    Calls Tryz.prog 77 #[.string s, .string t] w (TwoF a d a2 d2 0 w) := by
  have J1 := Lib.hid H1
  have J2 := Lib.hid H2
  have HV := Lib.hid hv
  have HR := Lib.hid (fun (w2 : World) => @rows2 w 111 w2)
  clear H1 H2 hv
  go_enter Tryz.func77, Tryz.ntmps77
  go_wp2_with (first
    | (go_at_call 96; obtain ⟨B2, g1, g2⟩ := HR.out _ rfl; (with_reducible refine (J1.out _ (HV.out.below B2)).mono ?_); rintro e w3 ⟨rfl, b⟩; have R1 := Lib.hid ((b.block _ (lt_of_block g1)).trans g1); have R2 := Lib.hid ((b.block _ (lt_of_block g2)).trans g2); have B3 := Lib.hid (bt B2 b); obtain ⟨k1, k2, k3, k4⟩ := row2 R1.out; obtain ⟨k5, k6, k7, k8⟩ := row2 R2.out; clear B2 g1 g2 b)
    | (go_at_call 96; (with_reducible refine (J2.out _ (HV.out.below (bel_sc2 (Nat.le_refl _) B3.out))).mono ?_); rintro e w4 ⟨rfl, b⟩
       have g1 := sc_row (.string a) (.string d) R1.out
       have g2 := row_sc2 (v1 := .string a) (v2 := .string d) (Nat.ne_of_lt (Nat.lt_succ_self _)) R2.out
       have R3 := Lib.hid ((b.block _ (lt_of_block g1)).trans g1)
       have R4 := Lib.hid ((b.block _ (lt_of_block g2)).trans g2)
       have B4 := Lib.hid (bt (bel_sc2 (q := w.heap.size) (v1 := .string a) (v2 := .string d) (Nat.le_refl _) B3.out) b)
       obtain ⟨m1, m2, m3, m4⟩ := row2 R3.out
       obtain ⟨m5, m6, m7, m8⟩ := row2 R4.out
       clear g1 g2 b k1 k2 k3 k4 k5 k6 k7 k8))
  go_region
  go_wp2
  refine bodyPost_ret (v := .tuple #[.agg #[.string a, .string d], .agg #[.string a2, .string d2], .int .i64 0]) (results_cells_tmp rfl _ _ w.heap.size (w.heap.size + 1) 111 #[.string a, .string d] #[.string a2, .string d2] (0, 0) _ (.int .i64 0) rfl rfl rfl ?_ ?_ Tryz.underlying111 (by kernel_rfl) (by kernel_rfl) (by kernel_rfl)) rfl ⟨rfl, ?_⟩
  · exact row_dr (row_sc2 (by omega) (sc_row _ _ (row_sc2 (by omega) R3.out)))
  · exact row_dr (sc_row _ _ (row_sc2 (by omega) (sc_row _ _ R4.out)))
  · exact Below.drew (bel_sc2 (by omega) (bel_sc2 (by omega) (bel_sc2 (by omega) B4.out)))
end
end Go.Proofs.YtbfimfjhdbpenaaGreatDoor
/- The walks of layer 2: calculate. -/
namespace Go.Proofs.YtbfimfjhdbpenaaGreatDoor
open Go Go.RowKit
set_option maxRecDepth 100000 in
set_option maxHeartbeats 1600000 in
theorem calc_parse (K : Nat) (s t a d a2 d2 : ByteArray) (c : Int) (h0 : ¬ c = 0) (w : World)
    (H : Calls Tryz.prog 77 #[.string s, .string t] w (TwoF a d a2 d2 c w)) :
    Calls Tryz.prog 80 #[.string s, .string t, .func (.func K) #[] #[]] w (StE ⟨#[]⟩ c w) := by
  have J := Lib.hid H
  have hz : (c == 0) = false := by rw [beq_eq_false_iff_ne]; exact h0
  clear H h0
  go_enter Tryz.func80, Tryz.ntmps80
  go_wp2_with (go_at_call 77; refine J.out.mono ?_; rintro e w1 ⟨rfl, b⟩; have B := Lib.hid b; have hs1 := b.size; clear b)
  go_ret2
  exact ⟨rfl, (B.out.alloc hs1 _).alloc (by simp; omega) _⟩
set_option maxRecDepth 100000 in
set_option maxHeartbeats 1600000 in
theorem calc_sum_err (s t a d a2 d2 N D : ByteArray) (c : Int) (h0 : ¬ c = 0) (w : World) (hv : VarT w)
    (H : Calls Tryz.prog 77 #[.string s, .string t] w (TwoF a d a2 d2 0 w))
    (HK : ∀ W, VarT W → Calls Tryz.prog 81 #[.agg #[.string a, .string d], .agg #[.string a2, .string d2]] W (PrsR N D c W)) :
    Calls Tryz.prog 80 #[.string s, .string t, .func (.func 81) #[] #[]] w (StE ⟨#[]⟩ c w) := by
  have J := Lib.hid H
  have JK := Lib.hid HK
  have HV := Lib.hid hv
  have hz : (c == 0) = false := by rw [beq_eq_false_iff_ne]; exact h0
  clear H HK h0 hv
  go_enter Tryz.func80, Tryz.ntmps80
  go_wp2_with (first
    | (go_at_call 77; refine J.out.mono ?_; rintro e w1 ⟨rfl, b⟩; have B1 := Lib.hid (fun o o' => (b.alloc b.size o).alloc (by simp; have := b.size; omega) o'); clear b)
    | (go_at_call 81; refine (JK.out _ (HV.out.below (B1.out _ _))).mono ?_; rintro e w2 ⟨rfl, b⟩; have B2 := Lib.hid (bt (B1.out (.cells #[.string a, .string d] 111) (.cells #[.string a2, .string d2] 111)) b); clear b))
  go_ret2
  exact ⟨rfl, B2.out.alloc B2.out.size _⟩
set_option maxRecDepth 100000 in
set_option maxHeartbeats 1600000 in
theorem calc_sum_ok (s t a d a2 d2 N D R : ByteArray) (w : World) (hv : VarT w)
    (H : Calls Tryz.prog 77 #[.string s, .string t] w (TwoF a d a2 d2 0 w))
    (HK : ∀ W, VarT W → Calls Tryz.prog 81 #[.agg #[.string a, .string d], .agg #[.string a2, .string d2]] W (PrsR N D 0 W))
    (HX : ∀ W, Calls Tryz.prog 123 #[.agg #[.string N, .string D]] W (StrR R W)) :
    Calls Tryz.prog 80 #[.string s, .string t, .func (.func 81) #[] #[]] w (StE R 0 w) := by
  have J := Lib.hid H
  have JK := Lib.hid HK
  have JX := Lib.hid HX
  have HV := Lib.hid hv
  clear H HK HX hv
  go_enter Tryz.func80, Tryz.ntmps80
  go_wp2_with (first
    | (go_at_call 77; refine J.out.mono ?_; rintro e w1 ⟨rfl, b⟩; have B1 := Lib.hid (fun o o' => (b.alloc b.size o).alloc (by simp; have := b.size; omega) o'); clear b)
    | (go_at_call 81; refine (JK.out _ (HV.out.below (B1.out _ _))).mono ?_; rintro e w2 ⟨rfl, b⟩; have B2 := Lib.hid (bt (B1.out (.cells #[.string a, .string d] 111) (.cells #[.string a2, .string d2] 111)) b); clear b)
    | (go_at_call 123; refine (JX.out _).mono ?_; rintro e w3 ⟨rfl, b⟩; have B3 := Lib.hid (bt (B2.out.alloc B2.out.size (.cells #[.string N, .string D] 111)) b); clear b))
  go_ret2
  exact ⟨rfl, B3.out⟩
set_option maxRecDepth 100000 in
set_option maxHeartbeats 1600000 in
theorem calc_difference_err (s t a d a2 d2 N D : ByteArray) (c : Int) (h0 : ¬ c = 0) (w : World) (hv : VarT w)
    (H : Calls Tryz.prog 77 #[.string s, .string t] w (TwoF a d a2 d2 0 w))
    (HK : ∀ W, VarT W → Calls Tryz.prog 82 #[.agg #[.string a, .string d], .agg #[.string a2, .string d2]] W (PrsR N D c W)) :
    Calls Tryz.prog 80 #[.string s, .string t, .func (.func 82) #[] #[]] w (StE ⟨#[]⟩ c w) := by
  have J := Lib.hid H
  have JK := Lib.hid HK
  have HV := Lib.hid hv
  have hz : (c == 0) = false := by rw [beq_eq_false_iff_ne]; exact h0
  clear H HK h0 hv
  go_enter Tryz.func80, Tryz.ntmps80
  go_wp2_with (first
    | (go_at_call 77; refine J.out.mono ?_; rintro e w1 ⟨rfl, b⟩; have B1 := Lib.hid (fun o o' => (b.alloc b.size o).alloc (by simp; have := b.size; omega) o'); clear b)
    | (go_at_call 82; refine (JK.out _ (HV.out.below (B1.out _ _))).mono ?_; rintro e w2 ⟨rfl, b⟩; have B2 := Lib.hid (bt (B1.out (.cells #[.string a, .string d] 111) (.cells #[.string a2, .string d2] 111)) b); clear b))
  go_ret2
  exact ⟨rfl, B2.out.alloc B2.out.size _⟩
set_option maxRecDepth 100000 in
set_option maxHeartbeats 1600000 in
theorem calc_difference_ok (s t a d a2 d2 N D R : ByteArray) (w : World) (hv : VarT w)
    (H : Calls Tryz.prog 77 #[.string s, .string t] w (TwoF a d a2 d2 0 w))
    (HK : ∀ W, VarT W → Calls Tryz.prog 82 #[.agg #[.string a, .string d], .agg #[.string a2, .string d2]] W (PrsR N D 0 W))
    (HX : ∀ W, Calls Tryz.prog 123 #[.agg #[.string N, .string D]] W (StrR R W)) :
    Calls Tryz.prog 80 #[.string s, .string t, .func (.func 82) #[] #[]] w (StE R 0 w) := by
  have J := Lib.hid H
  have JK := Lib.hid HK
  have JX := Lib.hid HX
  have HV := Lib.hid hv
  clear H HK HX hv
  go_enter Tryz.func80, Tryz.ntmps80
  go_wp2_with (first
    | (go_at_call 77; refine J.out.mono ?_; rintro e w1 ⟨rfl, b⟩; have B1 := Lib.hid (fun o o' => (b.alloc b.size o).alloc (by simp; have := b.size; omega) o'); clear b)
    | (go_at_call 82; refine (JK.out _ (HV.out.below (B1.out _ _))).mono ?_; rintro e w2 ⟨rfl, b⟩; have B2 := Lib.hid (bt (B1.out (.cells #[.string a, .string d] 111) (.cells #[.string a2, .string d2] 111)) b); clear b)
    | (go_at_call 123; refine (JX.out _).mono ?_; rintro e w3 ⟨rfl, b⟩; have B3 := Lib.hid (bt (B2.out.alloc B2.out.size (.cells #[.string N, .string D] 111)) b); clear b))
  go_ret2
  exact ⟨rfl, B3.out⟩
set_option maxRecDepth 100000 in
set_option maxHeartbeats 1600000 in
theorem calc_product_err (s t a d a2 d2 N D : ByteArray) (c : Int) (h0 : ¬ c = 0) (w : World) (hv : VarT w)
    (H : Calls Tryz.prog 77 #[.string s, .string t] w (TwoF a d a2 d2 0 w))
    (HK : ∀ W, VarT W → Calls Tryz.prog 83 #[.agg #[.string a, .string d], .agg #[.string a2, .string d2]] W (PrsR N D c W)) :
    Calls Tryz.prog 80 #[.string s, .string t, .func (.func 83) #[] #[]] w (StE ⟨#[]⟩ c w) := by
  have J := Lib.hid H
  have JK := Lib.hid HK
  have HV := Lib.hid hv
  have hz : (c == 0) = false := by rw [beq_eq_false_iff_ne]; exact h0
  clear H HK h0 hv
  go_enter Tryz.func80, Tryz.ntmps80
  go_wp2_with (first
    | (go_at_call 77; refine J.out.mono ?_; rintro e w1 ⟨rfl, b⟩; have B1 := Lib.hid (fun o o' => (b.alloc b.size o).alloc (by simp; have := b.size; omega) o'); clear b)
    | (go_at_call 83; refine (JK.out _ (HV.out.below (B1.out _ _))).mono ?_; rintro e w2 ⟨rfl, b⟩; have B2 := Lib.hid (bt (B1.out (.cells #[.string a, .string d] 111) (.cells #[.string a2, .string d2] 111)) b); clear b))
  go_ret2
  exact ⟨rfl, B2.out.alloc B2.out.size _⟩
set_option maxRecDepth 100000 in
set_option maxHeartbeats 1600000 in
theorem calc_product_ok (s t a d a2 d2 N D R : ByteArray) (w : World) (hv : VarT w)
    (H : Calls Tryz.prog 77 #[.string s, .string t] w (TwoF a d a2 d2 0 w))
    (HK : ∀ W, VarT W → Calls Tryz.prog 83 #[.agg #[.string a, .string d], .agg #[.string a2, .string d2]] W (PrsR N D 0 W))
    (HX : ∀ W, Calls Tryz.prog 123 #[.agg #[.string N, .string D]] W (StrR R W)) :
    Calls Tryz.prog 80 #[.string s, .string t, .func (.func 83) #[] #[]] w (StE R 0 w) := by
  have J := Lib.hid H
  have JK := Lib.hid HK
  have JX := Lib.hid HX
  have HV := Lib.hid hv
  clear H HK HX hv
  go_enter Tryz.func80, Tryz.ntmps80
  go_wp2_with (first
    | (go_at_call 77; refine J.out.mono ?_; rintro e w1 ⟨rfl, b⟩; have B1 := Lib.hid (fun o o' => (b.alloc b.size o).alloc (by simp; have := b.size; omega) o'); clear b)
    | (go_at_call 83; refine (JK.out _ (HV.out.below (B1.out _ _))).mono ?_; rintro e w2 ⟨rfl, b⟩; have B2 := Lib.hid (bt (B1.out (.cells #[.string a, .string d] 111) (.cells #[.string a2, .string d2] 111)) b); clear b)
    | (go_at_call 123; refine (JX.out _).mono ?_; rintro e w3 ⟨rfl, b⟩; have B3 := Lib.hid (bt (B2.out.alloc B2.out.size (.cells #[.string N, .string D] 111)) b); clear b))
  go_ret2
  exact ⟨rfl, B3.out⟩
end Go.Proofs.YtbfimfjhdbpenaaGreatDoor
/- The walks of layer 2: the operations on rationals: sums, differences, products, quotients. -/
namespace Go.Proofs.YtbfimfjhdbpenaaGreatDoor
open Go Go.RowKit
set_option maxRecDepth 100000 in
set_option maxHeartbeats 1600000 in
theorem sum_walk (an ad bn bd N D : ByteArray) (c : Int) (w : World) (hv : VarT w)
    (H : ∀ W, VarT W → Calls Tryz.prog 124 #[.agg #[.string an, .string ad], .agg #[.string bn, .string bd], .func (.func 125) #[] #[]] W (PrsR N D c W)) :
    Calls Tryz.prog 81 #[.agg #[.string an, .string ad], .agg #[.string bn, .string bd]] w (PrsR N D c w) := by
  have J := Lib.hid H
  have HV := Lib.hid hv
  have HR := Lib.hid (fun (w3 : World) => @rows3 w (.string an) (.string ad) (.string bn) (.string bd) 111 w3)
  clear H hv
  go_enter Tryz.func81, Tryz.ntmps81
  go_wp2_with (go_at_call 124; obtain ⟨B3, _, _, _, _, _, k5⟩ := HR.out _ rfl; refine (J.out _ (HV.out.below B3)).mono ?_; rintro e w4 ⟨rfl, b⟩; have R := (b.block _ (lt_of_block k5)).trans k5; obtain ⟨m1, m2, m3, m4⟩ := row2 R; have HK := Lib.hid R; have B4 := Lib.hid (bt B3 b); clear R B3 b k5)
  refine bodyPost_ret (v := .tuple #[.agg #[.string N, .string D], .int .i64 c]) (results_cell_tmp rfl _ _ (w.heap.size + 1 + 1) 111 #[.string N, .string D] (0, 0) _ (.int .i64 c) rfl rfl (sc_row _ _ HK.out) Tryz.underlying111 (by kernel_rfl) (by kernel_rfl)) rfl ⟨rfl, bel_sc2 (by omega) B4.out⟩
set_option maxRecDepth 100000 in
set_option maxHeartbeats 1600000 in
theorem difference_walk (an ad bn bd N D : ByteArray) (c : Int) (w : World) (hv : VarT w)
    (H : ∀ W, VarT W → Calls Tryz.prog 124 #[.agg #[.string an, .string ad], .agg #[.string bn, .string bd], .func (.func 126) #[] #[]] W (PrsR N D c W)) :
    Calls Tryz.prog 82 #[.agg #[.string an, .string ad], .agg #[.string bn, .string bd]] w (PrsR N D c w) := by
  have J := Lib.hid H
  have HV := Lib.hid hv
  have HR := Lib.hid (fun (w3 : World) => @rows3 w (.string an) (.string ad) (.string bn) (.string bd) 111 w3)
  clear H hv
  go_enter Tryz.func82, Tryz.ntmps82
  go_wp2_with (go_at_call 124; obtain ⟨B3, _, _, _, _, _, k5⟩ := HR.out _ rfl; refine (J.out _ (HV.out.below B3)).mono ?_; rintro e w4 ⟨rfl, b⟩; have R := (b.block _ (lt_of_block k5)).trans k5; obtain ⟨m1, m2, m3, m4⟩ := row2 R; have HK := Lib.hid R; have B4 := Lib.hid (bt B3 b); clear R B3 b k5)
  refine bodyPost_ret (v := .tuple #[.agg #[.string N, .string D], .int .i64 c]) (results_cell_tmp rfl _ _ (w.heap.size + 1 + 1) 111 #[.string N, .string D] (0, 0) _ (.int .i64 c) rfl rfl (sc_row _ _ HK.out) Tryz.underlying111 (by kernel_rfl) (by kernel_rfl)) rfl ⟨rfl, bel_sc2 (by omega) B4.out⟩
theorem chk_rep {x y : Int} (hx : x.natAbs < lim) (hy : y.natAbs < lim) : bothE (Lib.itoa x) (Lib.itoa y) = 0 := by unfold bothE; rw [if_pos (chk_of_abs hx)]; exact chk_of_abs hy
theorem add_lims {x y : Int} (hx : x.natAbs < lim) (hy : y.natAbs < lim) (w : World) (hv : VarT w) :
    Calls Tryz.prog 125 #[.string (rep x), .string (rep y)] w (StE (if LB (x + y) = true then rep (x + y) else ⟨#[]⟩) (if LB (x + y) = true then 0 else 14) w) := by
  have h := add_any (rep x) (rep y) (rep_size hx) (rep_size hy) w hv
  rw [rep_data, rep_data, opS_ok (chk_rep hx hy), num_itoa, num_itoa] at h
  unfold limS at h
  cases hl : LB (x + y)
  · rw [if_neg (LB_false hl)] at h
    exact h
  · rw [if_pos (LB_true.1 hl)] at h
    exact h
theorem sub_lims {x y : Int} (hx : x.natAbs < lim) (hy : y.natAbs < lim) (w : World) (hv : VarT w) :
    Calls Tryz.prog 126 #[.string (rep x), .string (rep y)] w (StE (if LB (x - y) = true then rep (x - y) else ⟨#[]⟩) (if LB (x - y) = true then 0 else 14) w) := by
  have h := sub_any (rep x) (rep y) (rep_size hx) (rep_size hy) w hv
  rw [rep_data, rep_data, opS_ok (chk_rep hx hy), num_itoa, num_itoa] at h
  unfold limS at h
  cases hl : LB (x - y)
  · rw [if_neg (LB_false hl)] at h
    exact h
  · rw [if_pos (LB_true.1 hl)] at h
    exact h
set_option maxHeartbeats 800000 in
theorem sum_q (a b : Rat) (ha : Sml a) (hb : Sml b) (w : World) (hv : VarT w) :
    Calls Tryz.prog 81 #[.agg #[.string (rep a.num), .string (rep (a.den : Int))], .agg #[.string (rep b.num), .string (rep (b.den : Int))]] w (PrsR (nT (addC a b) (a + b)) (dT (addC a b) (a + b)) (addC a b) w) := by
  have H1 := fun W hW => mul_lims ha.1 hb.2 _ _ rfl rfl _ _ rfl rfl W hW
  have H2 := fun W hW => mul_lims hb.1 ha.2 _ _ rfl rfl _ _ rfl rfl W hW
  have H3 := fun W hW => mul_lims ha.2 hb.2 _ _ rfl rfl _ _ rfl rfl W hW
  refine sum_walk _ _ _ _ _ _ _ w hv fun W hW => ?_
  cases h1 : LB (a.num * (b.den : Int)) <;> cases h2 : LB (b.num * (a.den : Int)) <;> cases h3 : LB ((a.den : Int) * (b.den : Int))
  all_goals
    rw [h1] at H1
    rw [h2] at H2
    rw [h3] at H3
    simp only [if_true, Bool.false_eq_true, if_false] at H1 H2 H3
  case true.true.true =>
    have H4 := fun W hW => add_lims (LB_true.1 h1) (LB_true.1 h2) W hW
    cases h4 : LB (a.num * (b.den : Int) + b.num * (a.den : Int))
    all_goals
      rw [h4] at H4
      simp only [if_true, Bool.false_eq_true, if_false] at H4
    · have e : addC a b = 14 := by unfold addC; rw [h1, h2, h3, h4]; rfl
      rw [e, nT_err (by decide), dT_err (by decide)]
      exact combined_add_jerr _ _ _ _ _ _ _ _ 14 (by decide) W hW H1 H2 H3 H4
    · have e : addC a b = 0 := by unfold addC; rw [h1, h2, h3, h4]; rfl
      rw [e, nT_ok, dT_ok]
      exact combined_add_ok _ _ _ _ _ _ _ _ _ _ W hW H1 H2 H3 H4 (fun W hW => reduced_q (LB_true.1 h4) (LB_true.1 h3) (den_mul_ne a b) (rat_add a b).symm _ _ rfl rfl W hW)
  all_goals
    have e : addC a b = 14 := by unfold addC; rw [h1, h2, h3]; rfl
    rw [e, nT_err (by decide), dT_err (by decide)]
    exact combined_err _ _ _ _ _ _ _ _ _ _ _ _ 14 rfl rfl (by decide) W hW H1 H2 H3
set_option maxHeartbeats 800000 in
theorem difference_q (a b : Rat) (ha : Sml a) (hb : Sml b) (w : World) (hv : VarT w) :
    Calls Tryz.prog 82 #[.agg #[.string (rep a.num), .string (rep (a.den : Int))], .agg #[.string (rep b.num), .string (rep (b.den : Int))]] w (PrsR (nT (subC a b) (a - b)) (dT (subC a b) (a - b)) (subC a b) w) := by
  have H1 := fun W hW => mul_lims ha.1 hb.2 _ _ rfl rfl _ _ rfl rfl W hW
  have H2 := fun W hW => mul_lims hb.1 ha.2 _ _ rfl rfl _ _ rfl rfl W hW
  have H3 := fun W hW => mul_lims ha.2 hb.2 _ _ rfl rfl _ _ rfl rfl W hW
  refine difference_walk _ _ _ _ _ _ _ w hv fun W hW => ?_
  cases h1 : LB (a.num * (b.den : Int)) <;> cases h2 : LB (b.num * (a.den : Int)) <;> cases h3 : LB ((a.den : Int) * (b.den : Int))
  all_goals
    rw [h1] at H1
    rw [h2] at H2
    rw [h3] at H3
    simp only [if_true, Bool.false_eq_true, if_false] at H1 H2 H3
  case true.true.true =>
    have H4 := fun W hW => sub_lims (LB_true.1 h1) (LB_true.1 h2) W hW
    cases h4 : LB (a.num * (b.den : Int) - b.num * (a.den : Int))
    all_goals
      rw [h4] at H4
      simp only [if_true, Bool.false_eq_true, if_false] at H4
    · have e : subC a b = 14 := by unfold subC; rw [h1, h2, h3, h4]; rfl
      rw [e, nT_err (by decide), dT_err (by decide)]
      exact combined_sub_jerr _ _ _ _ _ _ _ _ 14 (by decide) W hW H1 H2 H3 H4
    · have e : subC a b = 0 := by unfold subC; rw [h1, h2, h3, h4]; rfl
      rw [e, nT_ok, dT_ok]
      exact combined_sub_ok _ _ _ _ _ _ _ _ _ _ W hW H1 H2 H3 H4 (fun W hW => reduced_q (LB_true.1 h4) (LB_true.1 h3) (den_mul_ne a b) (rat_sub a b).symm _ _ rfl rfl W hW)
  all_goals
    have e : subC a b = 14 := by unfold subC; rw [h1, h2, h3]; rfl
    rw [e, nT_err (by decide), dT_err (by decide)]
    exact combined_err _ _ _ _ _ _ _ _ _ _ _ _ 14 rfl rfl (by decide) W hW H1 H2 H3
theorem product_z {x y x2 y2 : Int} {q : Rat} (hx : x.natAbs < lim) (hy : y.natAbs < lim) (hx2 : x2.natAbs < lim) (hy2 : y2.natAbs < lim) (h0 : y * y2 ≠ 0) (hq : Rat.divInt (x * x2) (y * y2) = q) (c : Int) (hc : (if LB (x * x2) && LB (y * y2) then 0 else 14) = c) (w : World) (hv : VarT w) :
    Calls Tryz.prog 83 #[.agg #[.string (rep x), .string (rep y)], .agg #[.string (rep x2), .string (rep y2)]] w (PrsR (nT c q) (dT c q) c w) := by
  subst hc
  have H1 := fun W hW => mul_lims hx hx2 _ _ rfl rfl _ _ rfl rfl W hW
  have H2 := fun W hW => mul_lims hy hy2 _ _ rfl rfl _ _ rfl rfl W hW
  cases h1 : LB (x * x2) <;> cases h2 : LB (y * y2)
  all_goals
    rw [h1] at H1
    rw [h2] at H2
    simp only [if_true, Bool.false_eq_true, if_false] at H1 H2
  case true.true =>
    show Calls _ _ _ _ (PrsR (nT 0 q) (dT 0 q) 0 w)
    rw [nT_ok, dT_ok]
    exact product_ok _ _ _ _ _ _ _ _ w hv H1 H2 (fun W hW => reduced_q (LB_true.1 h1) (LB_true.1 h2) h0 hq _ _ rfl rfl W hW)
  all_goals
    show Calls _ _ _ _ (PrsR (nT 14 q) (dT 14 q) 14 w)
    rw [nT_err (by decide), dT_err (by decide)]
    exact product_err _ _ _ _ _ _ _ _ 14 rfl (by decide) w hv H1 H2
theorem product_q (a b : Rat) (ha : Sml a) (hb : Sml b) (w : World) (hv : VarT w) :
    Calls Tryz.prog 83 #[.agg #[.string (rep a.num), .string (rep (a.den : Int))], .agg #[.string (rep b.num), .string (rep (b.den : Int))]] w (PrsR (nT (mulC a b) (a * b)) (dT (mulC a b) (a * b)) (mulC a b) w) :=
  product_z ha.1 ha.2 hb.1 hb.2 (den_mul_ne a b) (rat_mul a b).symm _ rfl w hv
end Go.Proofs.YtbfimfjhdbpenaaGreatDoor
/- Joined: RatG, RatH, RatI, RatJ, RatK. -/
/- The walks of layer 2: Parts; of its reference: Slash, written. -/
namespace Go.Proofs.YtbfimfjhdbpenaaGreatDoor
open Go Go.RowKit
end Go.Proofs.YtbfimfjhdbpenaaGreatDoor
/- The walks of the reference of layer 2: Check. -/
namespace Go.Proofs.YtbfimfjhdbpenaaGreatDoor
open Go Go.RowKit
def IntB (c : Int) (w : World) (e : Ending) (w' : World) : Prop := e = .returned (.int .i64 c) ∧ Below w.heap.size w w'
end Go.Proofs.YtbfimfjhdbpenaaGreatDoor
/- The walks of the reference of layer 2: Check as a whole, Great, Four. -/
namespace Go.Proofs.YtbfimfjhdbpenaaGreatDoor
open Go Go.RowKit
end Go.Proofs.YtbfimfjhdbpenaaGreatDoor
/- The walks of the reference of layer 2: Make. -/
namespace Go.Proofs.YtbfimfjhdbpenaaGreatDoor
open Go Go.RowKit
section
variable {x y : Int} (hx : x.natAbs < lim) (hy : y.natAbs < lim)
include hx hy
end
end Go.Proofs.YtbfimfjhdbpenaaGreatDoor
/- The walks of the reference of layer 2: Great, Four. -/
namespace Go.Proofs.YtbfimfjhdbpenaaGreatDoor
open Go Go.RowKit
end Go.Proofs.YtbfimfjhdbpenaaGreatDoor
/- Joined: RatAa, RatAb. -/
/- The walks of layer 2: Check, Add, Sub, Mul, Div, Compare on texts. -/
namespace Go.Proofs.YtbfimfjhdbpenaaGreatDoor
open Go Go.RowKit
theorem rq_size {q : Rat} (h : Sml q) : (rq q).size ≤ 2003 := by
  have h1 := len_of_chk (chk_of_abs h.1)
  have h2 := len_of_chk (chk_of_abs h.2)
  rw [Lib.size_eq, rq_data]
  unfold txtL
  split <;> simp <;> omega
theorem parse_q (q : Rat) (h : Sml q) (w : World) (hv : VarR w) :
    Calls Tryz.prog 96 #[.string (rq q)] w (PrsR (rep q.num) (rep (q.den : Int)) 0 w) := by
  have hp := parse_rat (rq q) (by have := rq_size h; omega) w hv
  obtain ⟨p1, p2⟩ := parS_ok (rq_chk h)
  rw [p1, p2, rq_chk h, rq_nB, rq_dB] at hp
  exact hp
theorem parse_e (s : ByteArray) (hs : s.size ≤ 1048576) (h : ¬ chkR s.data.toList = 0) (w : World) (hv : VarR w) :
    Calls Tryz.prog 96 #[.string s] w (PrsR ⟨#[]⟩ ⟨#[]⟩ (chkR s.data.toList) w) := by
  have hp := parse_rat s hs w hv
  obtain ⟨p1, p2⟩ := parS_err rfl h
  rw [p1, p2] at hp
  exact hp
theorem text_q (q : Rat) (h : Sml q) (w : World) :
    Calls Tryz.prog 123 #[.agg #[.string (rep q.num), .string (rep (q.den : Int))]] w (StrR (rq q) w) := by
  have h1 := len_of_chk (chk_of_abs h.1)
  have h2 := len_of_chk (chk_of_abs h.2)
  exact rtext_is (rep q.num) (rep (q.den : Int)) _ _ (rep_data _) (rep_data _) (by omega) (by omega) w
theorem addC_sml {a b : Rat} (h : addC a b = 0) : Sml (a + b) := (addC_ok h).2.2.2.2
theorem subC_sml {a b : Rat} (h : subC a b = 0) : Sml (a - b) := (subC_ok h).2.2.2.2
theorem mulC_sml {a b : Rat} (h : mulC a b = 0) : Sml (a * b) := (mulC_ok h).2.2
theorem text_cases (s : ByteArray) : ¬ chkR s.data.toList = 0 ∨ ∃ q, s = rq q ∧ Sml q := by
  by_cases h : chkR s.data.toList = 0
  · obtain ⟨q, h1, _, _, h2⟩ := rq_of h; exact .inr ⟨q, h1, h2⟩
  · exact .inl h
set_option maxRecDepth 100000 in
set_option maxHeartbeats 1600000 in
theorem rcheck_any (s : ByteArray) (hs : s.size ≤ 1048576) (w : World) (hv : VarR w) :
    Calls Tryz.prog 54 #[.string s] w (IntB (chkR s.data.toList) w) := by
  have HP := Lib.hid (parse_rat s hs w hv)
  generalize (⟨(parS s.data.toList).1.toArray⟩ : ByteArray) = N at *
  generalize (⟨(parS s.data.toList).2.toArray⟩ : ByteArray) = D at *
  generalize chkR s.data.toList = c at *
  clear hv hs
  go_enter Tryz.func54, Tryz.ntmps54
  go_wp2_with (go_at_call 96; refine HP.out.mono ?_; rintro e w1 ⟨rfl, b1⟩)
  go_ret
  exact ⟨rfl, b1.alloc b1.size _⟩
theorem radd_walk (s t R : ByteArray) (c : Int) (w : World)
    (H : Calls Tryz.prog 80 #[.string s, .string t, .func (.func 81) #[] #[]] w (StE R c w)) :
    Calls Tryz.prog 40 #[.string s, .string t] w (StE R c w) := by
  have J := Lib.hid H
  clear H
  go_enter Tryz.func40, Tryz.ntmps40
  go_wp2_with (go_at_call 80; refine J.out.mono ?_; rintro e w1 ⟨rfl, b⟩; have B := Lib.hid b; clear b)
  go_ret2
  exact ⟨rfl, B.out⟩
theorem radd_any (s t : ByteArray) (hs : s.size ≤ 1048576) (ht : t.size ≤ 1048576) (w : World) (hv : VarR w) :
    Calls Tryz.prog 40 #[.string s, .string t] w (StE (twT addC (· + ·) s.data.toList t.data.toList) (twC addC s.data.toList t.data.toList) w) := by
  refine radd_walk s t _ _ w ?_
  rcases text_cases s with h1 | ⟨a, rfl, ha⟩
  · unfold twT
    rw [twC_l h1, qT_err h1]
    exact calc_parse _ _ _ _ _ _ _ _ h1 w (parseTwo_one s t w hv _ _ _ h1 (fun W hW => parse_e s hs h1 W hW))
  rcases text_cases t with h2 | ⟨b, rfl, hb⟩
  · unfold twT
    rw [twC_r (rq_chk ha) h2, qT_err h2]
    exact calc_parse _ _ _ _ _ _ _ _ h2 w (parseTwo_two _ t w hv _ _ _ _ _ h2 (fun W hW => parse_q a ha W hW) (fun W hW => parse_e t ht h2 W hW))
  rw [twT_rq ha hb, twC_rq ha hb]
  have HT := parseTwo_ok (rq a) (rq b) w hv _ _ _ _ (fun W hW => parse_q a ha W hW) (fun W hW => parse_q b hb W hW)
  by_cases h0 : addC a b = 0
  · have HK := fun W hW => sum_q a b ha hb W hW
    rw [h0, nT_ok, dT_ok] at HK
    rw [h0, qT_ok]
    exact calc_sum_ok _ _ _ _ _ _ _ _ _ w hv.t HT HK (fun W => text_q _ (addC_sml h0) W)
  · rw [qT_err h0]
    exact calc_sum_err _ _ _ _ _ _ _ _ _ h0 w hv.t HT (fun W hW => sum_q a b ha hb W hW)
theorem rsub_walk (s t R : ByteArray) (c : Int) (w : World)
    (H : Calls Tryz.prog 80 #[.string s, .string t, .func (.func 82) #[] #[]] w (StE R c w)) :
    Calls Tryz.prog 41 #[.string s, .string t] w (StE R c w) := by
  have J := Lib.hid H
  clear H
  go_enter Tryz.func41, Tryz.ntmps41
  go_wp2_with (go_at_call 80; refine J.out.mono ?_; rintro e w1 ⟨rfl, b⟩; have B := Lib.hid b; clear b)
  go_ret2
  exact ⟨rfl, B.out⟩
theorem rsub_any (s t : ByteArray) (hs : s.size ≤ 1048576) (ht : t.size ≤ 1048576) (w : World) (hv : VarR w) :
    Calls Tryz.prog 41 #[.string s, .string t] w (StE (twT subC (· - ·) s.data.toList t.data.toList) (twC subC s.data.toList t.data.toList) w) := by
  refine rsub_walk s t _ _ w ?_
  rcases text_cases s with h1 | ⟨a, rfl, ha⟩
  · unfold twT
    rw [twC_l h1, qT_err h1]
    exact calc_parse _ _ _ _ _ _ _ _ h1 w (parseTwo_one s t w hv _ _ _ h1 (fun W hW => parse_e s hs h1 W hW))
  rcases text_cases t with h2 | ⟨b, rfl, hb⟩
  · unfold twT
    rw [twC_r (rq_chk ha) h2, qT_err h2]
    exact calc_parse _ _ _ _ _ _ _ _ h2 w (parseTwo_two _ t w hv _ _ _ _ _ h2 (fun W hW => parse_q a ha W hW) (fun W hW => parse_e t ht h2 W hW))
  rw [twT_rq ha hb, twC_rq ha hb]
  have HT := parseTwo_ok (rq a) (rq b) w hv _ _ _ _ (fun W hW => parse_q a ha W hW) (fun W hW => parse_q b hb W hW)
  by_cases h0 : subC a b = 0
  · have HK := fun W hW => difference_q a b ha hb W hW
    rw [h0, nT_ok, dT_ok] at HK
    rw [h0, qT_ok]
    exact calc_difference_ok _ _ _ _ _ _ _ _ _ w hv.t HT HK (fun W => text_q _ (subC_sml h0) W)
  · rw [qT_err h0]
    exact calc_difference_err _ _ _ _ _ _ _ _ _ h0 w hv.t HT (fun W hW => difference_q a b ha hb W hW)
theorem rmul_walk (s t R : ByteArray) (c : Int) (w : World)
    (H : Calls Tryz.prog 80 #[.string s, .string t, .func (.func 83) #[] #[]] w (StE R c w)) :
    Calls Tryz.prog 42 #[.string s, .string t] w (StE R c w) := by
  have J := Lib.hid H
  clear H
  go_enter Tryz.func42, Tryz.ntmps42
  go_wp2_with (go_at_call 80; refine J.out.mono ?_; rintro e w1 ⟨rfl, b⟩; have B := Lib.hid b; clear b)
  go_ret2
  exact ⟨rfl, B.out⟩
theorem rmul_any (s t : ByteArray) (hs : s.size ≤ 1048576) (ht : t.size ≤ 1048576) (w : World) (hv : VarR w) :
    Calls Tryz.prog 42 #[.string s, .string t] w (StE (twT mulC (· * ·) s.data.toList t.data.toList) (twC mulC s.data.toList t.data.toList) w) := by
  refine rmul_walk s t _ _ w ?_
  rcases text_cases s with h1 | ⟨a, rfl, ha⟩
  · unfold twT
    rw [twC_l h1, qT_err h1]
    exact calc_parse _ _ _ _ _ _ _ _ h1 w (parseTwo_one s t w hv _ _ _ h1 (fun W hW => parse_e s hs h1 W hW))
  rcases text_cases t with h2 | ⟨b, rfl, hb⟩
  · unfold twT
    rw [twC_r (rq_chk ha) h2, qT_err h2]
    exact calc_parse _ _ _ _ _ _ _ _ h2 w (parseTwo_two _ t w hv _ _ _ _ _ h2 (fun W hW => parse_q a ha W hW) (fun W hW => parse_e t ht h2 W hW))
  rw [twT_rq ha hb, twC_rq ha hb]
  have HT := parseTwo_ok (rq a) (rq b) w hv _ _ _ _ (fun W hW => parse_q a ha W hW) (fun W hW => parse_q b hb W hW)
  by_cases h0 : mulC a b = 0
  · have HK := fun W hW => product_q a b ha hb W hW
    rw [h0, nT_ok, dT_ok] at HK
    rw [h0, qT_ok]
    exact calc_product_ok _ _ _ _ _ _ _ _ _ w hv.t HT HK (fun W => text_q _ (mulC_sml h0) W)
  · rw [qT_err h0]
    exact calc_product_err _ _ _ _ _ _ _ _ _ h0 w hv.t HT (fun W hW => product_q a b ha hb W hW)
end Go.Proofs.YtbfimfjhdbpenaaGreatDoor
/- The walks of layer 2: Compare. -/
namespace Go.Proofs.YtbfimfjhdbpenaaGreatDoor
open Go Go.RowKit
def CmE (r c : Int) (w : World) (e : Ending) (w' : World) : Prop := e = .returned (.tuple #[.int .i64 r, .int .i64 c]) ∧ Below w.heap.size w w'
theorem rows4c (w : World) (a b c d : Value) (t te tp : TypeId) (hv : VarT w) {w5 : World}
    (h5 : ((((w.alloc (.cells #[a, b] t (0, 0))).alloc (.cells #[c, d] t (0, 0))).alloc (.cells #[.int .i64 0] te (0, 0))).alloc (.cells #[.pointer (some ⟨w.heap.size + 1 + 1, 0, none⟩)] tp (0, 0))) = w5) :
    Clo w (w.heap.size + 1 + 1 + 1) (w.heap.size + 1 + 1) 0 w5 ∧
    w5.cell? ⟨w.heap.size, 0, none⟩ = some a ∧ w5.cell? ⟨w.heap.size, 1, none⟩ = some b ∧ w5.cell? ⟨w.heap.size + 1, 0, none⟩ = some c ∧ w5.cell? ⟨w.heap.size + 1, 1, none⟩ = some d := by
  have hh : w5.heap = ((((w.heap.push (.cells #[a, b] t (0, 0))).push (.cells #[c, d] t (0, 0))).push (.cells #[.int .i64 0] te (0, 0))).push (.cells #[.pointer (some ⟨w.heap.size + 1 + 1, 0, none⟩)] tp (0, 0))) := by subst h5; rfl
  have B : Below w.heap.size w w5 := by
    subst h5
    exact ((((Below.refl _ w).alloc (Nat.le_refl _) _).alloc (by simp) _).alloc (by simp; omega) _).alloc (by simp; omega) _
  clear h5
  have g0 : w5.heap[w.heap.size]? = some (.cells #[a, b] t (0, 0)) := by
    rw [hh]; simp only [Array.getElem?_push, Array.size_push]
    rw [if_neg (by omega), if_neg (by omega), if_neg (by omega), if_pos trivial]
  have g1 : w5.heap[w.heap.size + 1]? = some (.cells #[c, d] t (0, 0)) := by
    rw [hh]; simp only [Array.getElem?_push, Array.size_push]
    rw [if_neg (by omega), if_neg (by omega), if_pos trivial]
  have g3 : w5.heap[w.heap.size + 1 + 1]? = some (.cells #[.int .i64 0] te (0, 0)) := by
    rw [hh]; simp only [Array.getElem?_push, Array.size_push]
    rw [if_neg (by omega), if_pos trivial]
  have g4 : w5.heap[w.heap.size + 1 + 1 + 1]? = some (.cells #[.pointer (some ⟨w.heap.size + 1 + 1, 0, none⟩)] tp (0, 0)) := by
    rw [hh]; simp only [Array.getElem?_push, Array.size_push]
    rw [if_pos trivial]
  clear hh
  obtain ⟨k1, k2, _, _⟩ := row2 g0
  obtain ⟨k3, k4, _, _⟩ := row2 g1
  refine ⟨⟨B, hv.below B, ?_, ?_, ?_⟩, k1, k2, k3, k4⟩
  · simp only [World.cell?, g4]; rfl
  · simp only [World.cell?, g3]; rfl
  · simp only [World.frozen?, g3]; rfl
set_option maxRecDepth 100000 in
set_option maxHeartbeats 3200000 in
theorem compare_parse (s t a d a2 d2 : ByteArray) (c : Int) (h0 : ¬ c = 0) (w : World)
    (H : Calls Tryz.prog 77 #[.string s, .string t] w (TwoF a d a2 d2 c w)) :
    Calls Tryz.prog 39 #[.string s, .string t] w (CmE 0 c w) := by
  have J := Lib.hid H
  have hz : (c == 0) = false := by rw [beq_eq_false_iff_ne]; exact h0
  clear H h0
  go_enter Tryz.func39, Tryz.ntmps39
  go_wp2_with (go_at_call 77; refine J.out.mono ?_; rintro e w1 ⟨rfl, b⟩; have B := Lib.hid b; have hs1 := b.size; clear b)
  go_region
  go_wp2
  go_ret2
  exact ⟨rfl, Below.drew (((B.out.alloc hs1 _).alloc (by simp; omega) _).alloc (by simp; omega) _)⟩
set_option maxRecDepth 100000 in
set_option maxHeartbeats 3200000 in
theorem compare_err (s t an ad bn bd r1 r2 : ByteArray) (c1 c2 c : Int) (hc : (if c1 = 0 then c2 else c1) = c) (h0 : ¬ c = 0) (w : World) (hv : VarT w)
    (H : Calls Tryz.prog 77 #[.string s, .string t] w (TwoF an ad bn bd 0 w))
    (H1 : ∀ W, VarT W → Calls Tryz.prog 116 #[.string an, .string bd] W (StE r1 c1 W))
    (H2 : ∀ W, VarT W → Calls Tryz.prog 116 #[.string bn, .string ad] W (StE r2 c2 W)) :
    Calls Tryz.prog 39 #[.string s, .string t] w (CmE 0 c w) := by
  have J := Lib.hid H
  have J1 := Lib.hid H1
  have J2 := Lib.hid H2
  have HC := Lib.hid hc
  have hz : (c == 0) = false := by rw [beq_eq_false_iff_ne]; exact h0
  clear hc h0
  have HV0 := Lib.hid hv
  clear H H1 H2 hv
  go_enter Tryz.func39, Tryz.ntmps39
  go_wp2_with (first
    | (go_at_call 77; refine J.out.mono ?_; rintro e w1 ⟨rfl, b⟩; have B := Lib.hid b; have hs1 := b.size; have HV := Lib.hid (HV0.out.below b); have HR := Lib.hid (fun (w5 : World) => @rows4c w1 (.string an) (.string ad) (.string bn) (.string bd) 111 29 116 HV.out w5); clear b)
    | (go_at_call 78; refine (multiplier_any _ _).mono ?_; rintro e w5 ⟨rfl, h5⟩; obtain ⟨C0, k1, k2, k3, k4⟩ := HR.out w5 h5; clear h5))
  have hC0 := C0.drew
  clear C0
  go_region_held3 (fun w' => w'.cell? ⟨w1.heap.size, 0, none⟩ = some (.string an) ∧ w'.cell? ⟨w1.heap.size, 1, none⟩ = some (.string ad) ∧ w'.cell? ⟨w1.heap.size + 1, 0, none⟩ = some (.string bn) ∧ w'.cell? ⟨w1.heap.size + 1, 1, none⟩ = some (.string bd))
    (((try go_split_ands); (and_intros) <;> first | assumption | exact tim_far (by assumption) (by omega) b2 | exact tim_far (by assumption) (by omega) b1 | (go_keep; done)))
    (first
      | (go_split_ands; go_at_call 115; (with_reducible refine (hC0.call _ _ r1 c1 c1 (if_pos rfl) J1.out).mono ?_); rintro e w6 ⟨rfl, b1⟩; have hC1 := hC0.after (by omega) (by omega) HV.out b1)
      | (go_split_ands; go_at_call 115; (with_reducible refine (hC1.call _ _ r2 c2 c HC.out J2.out).mono ?_); rintro e w7 ⟨rfl, b2⟩; have hC2 := hC1.after (by omega) (by omega) HV.out b2))
  have hq := hC2.hq
  have HC2 := Lib.hid hC2
  clear hC0 hC1 hC2 b1 b2 k1 k2 k3 k4
  go_wp2
  go_region
  go_wp2
  go_ret2
  exact ⟨rfl, Below.drew (bt B.out HC2.out.bl)⟩
set_option maxRecDepth 100000 in
set_option maxHeartbeats 3200000 in
theorem compare_ok (s t an ad bn bd r1 r2 : ByteArray) (r : Int) (w : World) (hv : VarT w)
    (H : Calls Tryz.prog 77 #[.string s, .string t] w (TwoF an ad bn bd 0 w))
    (H1 : ∀ W, VarT W → Calls Tryz.prog 116 #[.string an, .string bd] W (StE r1 0 W))
    (H2 : ∀ W, VarT W → Calls Tryz.prog 116 #[.string bn, .string ad] W (StE r2 0 W))
    (H3 : ∀ W, VarT W → Calls Tryz.prog 79 #[.string r1, .string r2] W (CmpR r W)) :
    Calls Tryz.prog 39 #[.string s, .string t] w (CmE r 0 w) := by
  have J := Lib.hid H
  have J1 := Lib.hid H1
  have J2 := Lib.hid H2
  have J3 := Lib.hid H3
  clear H3
  have HV0 := Lib.hid hv
  clear H H1 H2 hv
  go_enter Tryz.func39, Tryz.ntmps39
  go_wp2_with (first
    | (go_at_call 77; refine J.out.mono ?_; rintro e w1 ⟨rfl, b⟩; have B := Lib.hid b; have hs1 := b.size; have HV := Lib.hid (HV0.out.below b); have HR := Lib.hid (fun (w5 : World) => @rows4c w1 (.string an) (.string ad) (.string bn) (.string bd) 111 29 116 HV.out w5); clear b)
    | (go_at_call 78; refine (multiplier_any _ _).mono ?_; rintro e w5 ⟨rfl, h5⟩; obtain ⟨C0, k1, k2, k3, k4⟩ := HR.out w5 h5; clear h5))
  have hC0 := C0.drew
  clear C0
  go_region_held3 (fun w' => w'.cell? ⟨w1.heap.size, 0, none⟩ = some (.string an) ∧ w'.cell? ⟨w1.heap.size, 1, none⟩ = some (.string ad) ∧ w'.cell? ⟨w1.heap.size + 1, 0, none⟩ = some (.string bn) ∧ w'.cell? ⟨w1.heap.size + 1, 1, none⟩ = some (.string bd))
    (((try go_split_ands); (and_intros) <;> first | assumption | exact tim_far (by assumption) (by omega) b2 | exact tim_far (by assumption) (by omega) b1 | (go_keep; done)))
    (first
      | (go_split_ands; go_at_call 115; (with_reducible refine (hC0.call _ _ r1 0 0 rfl J1.out).mono ?_); rintro e w6 ⟨rfl, b1⟩; have hC1 := hC0.after (by omega) (by omega) HV.out b1)
      | (go_split_ands; go_at_call 115; (with_reducible refine (hC1.call _ _ r2 0 0 rfl J2.out).mono ?_); rintro e w7 ⟨rfl, b2⟩; have hC2 := hC1.after (by omega) (by omega) HV.out b2))
  have hq := hC2.hq
  have HC2 := Lib.hid hC2
  clear hC0 hC1 hC2 b1 b2 k1 k2 k3 k4
  go_wp2_with (go_at_call 79; refine (J3.out _ HC2.out.v).mono ?_; rintro e w8 ⟨rfl, b⟩; have B8 := Lib.hid (bt (bt B.out HC2.out.bl) b); clear b)
  go_ret2
  exact ⟨rfl, B8.out⟩
def twK (l m : List UInt8) : Int := if twC comC l m = 0 then cmpQ (qv l) (qv m) else 0
theorem rcompare_any (s t : ByteArray) (hs : s.size ≤ 1048576) (ht : t.size ≤ 1048576) (w : World) (hv : VarR w) :
    Calls Tryz.prog 39 #[.string s, .string t] w (CmE (twK s.data.toList t.data.toList) (twC comC s.data.toList t.data.toList) w) := by
  unfold twK
  rcases text_cases s with h1 | ⟨a, rfl, ha⟩
  · rw [twC_l h1, if_neg h1]
    exact compare_parse _ _ _ _ _ _ _ h1 w (parseTwo_one s t w hv _ _ _ h1 (fun W hW => parse_e s hs h1 W hW))
  rcases text_cases t with h2 | ⟨b, rfl, hb⟩
  · rw [twC_r (rq_chk ha) h2, if_neg h2]
    exact compare_parse _ _ _ _ _ _ _ h2 w (parseTwo_two _ t w hv _ _ _ _ _ h2 (fun W hW => parse_q a ha W hW) (fun W hW => parse_e t ht h2 W hW))
  rw [twC_rq ha hb, qv_rq, qv_rq]
  have HT := parseTwo_ok (rq a) (rq b) w hv _ _ _ _ (fun W hW => parse_q a ha W hW) (fun W hW => parse_q b hb W hW)
  have H1 := fun W hW => mul_lims ha.1 hb.2 _ _ rfl rfl _ _ rfl rfl W hW
  have H2 := fun W hW => mul_lims hb.1 ha.2 _ _ rfl rfl _ _ rfl rfl W hW
  cases h1 : LB (a.num * (b.den : Int)) <;> cases h2 : LB (b.num * (a.den : Int))
  all_goals
    rw [h1] at H1
    rw [h2] at H2
    simp only [if_true, Bool.false_eq_true, if_false] at H1 H2
  case true.true =>
    have e : comC a b = 0 := by unfold comC; rw [h1, h2]; rfl
    rw [e, if_pos rfl]
    exact compare_ok _ _ _ _ _ _ _ _ _ w hv.t HT H1 H2 (fun W hW => compare_rep (LB_true.1 h1) (LB_true.1 h2) (cmpZ_rat a b) _ _ rfl rfl W hW)
  all_goals
    have e : comC a b = 14 := by unfold comC; rw [h1, h2]; rfl
    rw [e, if_neg (by decide)]
    exact compare_err _ _ _ _ _ _ _ _ _ _ 14 rfl (by decide) w hv.t HT H1 H2
end Go.Proofs.YtbfimfjhdbpenaaGreatDoor

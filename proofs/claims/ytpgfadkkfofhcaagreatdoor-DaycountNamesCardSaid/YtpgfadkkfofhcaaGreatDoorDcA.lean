/- Layer 5: the program's walks: places of days, the rules. -/
import Derived.Test.YtpgfadkkfofhcaaGreatDoorDatC
import Derived.Test.YtpgfadkkfofhcaaGreatDoorDcM
import Derived.Deep.QuietTactic
import Derived.BigQuiet
import Derived.Laws.EntriesVeiled
import Derived.Deep.RegionLaw
import Derived.Deep.RegionHeld3
namespace Go.Proofs.YtpgfadkkfofhcaaGreatDoor
open Go Go.RowKit

theorem btE {a b c : World} (h : Below a.heap.size a b) (k : Below b.heap.size b c) : Below a.heap.size a c := h.trans (k.mono h.size)
theorem belE (w : World) (o : Obj) : Below w.heap.size w (w.alloc o) := (Below.refl _ w).alloc (Nat.le_refl _) _
theorem cellE {a b : World} (h : Below a.heap.size a b) {r k : Nat} {v : Value} (hc : a.cell? ⟨r, k, none⟩ = some v) : b.cell? ⟨r, k, none⟩ = some v :=
  (h.cell (p := ⟨r, k, none⟩) (World.block_lt_of_cell? a _ hc)).trans hc
theorem corE_any (b : Nat) (x y : Int) (w : World) (h0 : w.cell? ⟨b, 0, none⟩ = some (.int .i64 x)) (h1 : w.cell? ⟨b, 1, none⟩ = some (.int .i64 y)) :
    Calls Tryz.prog 23 #[.slice (some ⟨b, 0, none⟩) 2 2] w fun e w' => e = .returned (.int .i64 (if x = 0 then y else x)) ∧ w = w' := by
  by_cases hx : x = 0
  · subst hx
    rw [if_pos rfl]
    by_cases hy : y = 0
    · subst hy
      go_enter Tryz.func23, Tryz.ntmps23
      go_wp2
      go_loop [8] (fun i => ∃ k : Nat, k ≤ 2 ∧ i = .int .i64 k) (fun i => 2 - (intOf i).toNat)
      case atStart => exact ⟨0, by omega, rfl⟩
      case round =>
        obtain ⟨k, hk, rfl⟩ := hrel
        match k, hk with
        | 0, _ => go_wp2; go_round; (case rel => exact ⟨1, by omega, rfl⟩); (case measure => simp [intOf])
        | 1, _ => go_wp2; go_round; (case rel => exact ⟨2, by omega, rfl⟩); (case measure => simp [intOf])
        | 2, _ => go_wp2; go_ret; exact ⟨rfl, rfl⟩
    · have h2 : (y == 0) = false := by rw [beq_eq_false_iff_ne]; exact hy
      clear hy
      go_enter Tryz.func23, Tryz.ntmps23
      go_wp2
      go_loop [8] (fun i => ∃ k : Nat, k ≤ 1 ∧ i = .int .i64 k) (fun i => 2 - (intOf i).toNat)
      case atStart => exact ⟨0, by omega, rfl⟩
      case round =>
        obtain ⟨k, hk, rfl⟩ := hrel
        match k, hk with
        | 0, _ => go_wp2; go_round; (case rel => exact ⟨1, by omega, rfl⟩); (case measure => simp [intOf])
        | 1, _ => go_wp2; go_ret; exact ⟨rfl, rfl⟩
  · rw [if_neg hx]
    have h2 : (x == 0) = false := by rw [beq_eq_false_iff_ne]; exact hx
    clear hx
    go_enter Tryz.func23, Tryz.ntmps23
    go_wp2
    go_loop [8] (fun i => i = .int .i64 0) (fun i => 2 - (intOf i).toNat)
    case atStart => rfl
    case round =>
      obtain rfl := hrel
      go_wp2
      go_ret
      exact ⟨rfl, rfl⟩
theorem corE_new (x y : Int) (w : World) (t : TypeId) :
    Calls Tryz.prog 23 #[.slice (some ⟨w.heap.size, 0, none⟩) 2 2] (w.alloc (.cells #[.int .i64 x, .int .i64 y] t)) fun e w' => e = .returned (.int .i64 (if x = 0 then y else x)) ∧ w.alloc (.cells #[.int .i64 x, .int .i64 y] t) = w' := by
  refine corE_any _ x y _ ?_ ?_
  · rw [World.cell?_alloc_at _ _ _ _ rfl]; rfl
  · rw [World.cell?_alloc_at _ _ _ _ rfl]; rfl
/-- Two results, the first one a struct in memory. -/
theorem results_cellE {P : Program} {fn : Func} {p q : Tmp} {ty : TypeId} (h : fn.results = #[.cell p ty, .tmp q]) (tmps : Array Value) (w : World) (g : Nat) (t : TypeId) (cs : Array Value) (fr : Nat × Nat) (d : TypeDesc) (u : Value) (hq : tmps.getD q undef = u)
    (hp : tmps.getD p undef = .pointer (some ⟨g, 0, none⟩)) (hg : w.heap[g]? = some (.cells cs t fr))
    (hu : P.underlying ty = some d) (hd : (match d with | .struct _ | .array _ _ => true | _ => false) = true) (hi : (P.info? ty).map (·.size) = some cs.size) :
    (results fn tmps).run P w = .ok (.tuple #[.agg cs, u]) w := by
  subst hq
  have hp' : tmps[p]?.getD undef = .pointer (some ⟨g, 0, none⟩) := by simpa using hp
  simp [results, h, hp', asAddr, run_loadVar_row w g t ty cs fr d hg hu hd hi]

/-- The place of a day, and an error. -/
def PlcR (n y m d c : Int) (w : World) (e : Ending) (w' : World) : Prop := e = .returned (.tuple #[.agg #[.int .i64 n, .int .i64 y, .int .i64 m, .int .i64 d], .int .i64 c]) ∧ Below w.heap.size w w'
set_option maxRecDepth 100000 in
set_option maxHeartbeats 1600000 in
theorem placeOf_in (Y M D n : Int) (h : IsDate Y M D n) (hn : n ≤ 99999) (w : World) (hv : VarD w) :
    Calls Tryz.prog 22 #[.int .i64 n] w (PlcR n Y M D 0 w) := by
  have HP := Lib.hid (fun o => parts4_in Y M D n h hn (w.alloc o) (hv.below (belE w o)))
  have HB := Lib.hid (belE w)
  clear h hn hv
  go_enter Tryz.func22, Tryz.ntmps22
  go_wp2_with (go_at_call 17; ((with_reducible refine (HP.out _).mono ?_); rintro e w1 ⟨rfl, rfl⟩))
  refine bodyPost_ret (v := .tuple #[.agg #[.int .i64 n, .int .i64 Y, .int .i64 M, .int .i64 D], .int .i64 0]) (results_cellE rfl _ _ w.heap.size 46 _ (0, 0) _ (.int .i64 0) rfl rfl (heap_alloc_new w _) Tryz.underlying46 (by kernel_rfl) (by kernel_rfl)) rfl ⟨rfl, HB.out _⟩
set_option maxRecDepth 100000 in
set_option maxHeartbeats 1600000 in
theorem placeOf_out (n : Int) (h : n < 0 ∨ 99999 < n) (w : World) :
    Calls Tryz.prog 22 #[.int .i64 n] w (PlcR 0 0 0 0 2 w) := by
  have HP := Lib.hid (fun o => parts4_out n h (w.alloc o))
  have HB := Lib.hid (belE w)
  clear h
  go_enter Tryz.func22, Tryz.ntmps22
  go_wp2_with (go_at_call 17; ((with_reducible refine (HP.out _).mono ?_); rintro e w1 ⟨rfl, rfl⟩))
  refine bodyPost_ret (v := .tuple #[.agg #[.int .i64 0, .int .i64 0, .int .i64 0, .int .i64 0], .int .i64 2]) (results_cellE rfl _ _ w.heap.size 46 _ (0, 0) _ (.int .i64 2) rfl rfl (heap_alloc_new w _) Tryz.underlying46 (by kernel_rfl) (by kernel_rfl)) rfl ⟨rfl, HB.out _⟩
set_option maxRecDepth 100000 in
set_option maxHeartbeats 1600000 in
theorem byMonths_any (k : FuncId) (w : World) :
    Calls Tryz.prog 41 #[.func (.func k) #[] #[]] w fun e w' => e = .returned (.func (.func 63) #[] #[.pointer (some ⟨w.heap.size, 0, none⟩)]) ∧ w.alloc (.cells #[.func (.func k) #[] #[]] 58) = w' := by
  have hmf : ∀ fn first cap w, (Instr.makeFunc fn first cap).run Tryz.prog w = .ok (.func fn first cap) w := fun _ _ _ _ => rfl
  go_enter Tryz.func41, Tryz.ntmps41
  go_wp2
  go_ret
  exact ⟨rfl, rfl⟩
/-- The rules: an array of functions, two of them closures that hold a function in cells of their own. -/
def Cnt1 (q : Nat) : Value := .func (.func 63) #[] #[.pointer (some ⟨q, 0, none⟩)]
def CntR (w : World) (e : Ending) (w' : World) : Prop := ∃ q1 q2, e = .returned (.agg #[.func (.func 40) #[] #[], .func (.func 40) #[] #[], .func (.func 63) #[] #[.pointer (some ⟨q1, 0, none⟩)], .func (.func 40) #[] #[], .func (.func 63) #[] #[.pointer (some ⟨q2, 0, none⟩)]]) ∧ Below w.heap.size w w' ∧ w'.cell? ⟨q1, 0, none⟩ = some (.func (.func 42) #[] #[]) ∧ w'.cell? ⟨q2, 0, none⟩ = some (.func (.func 43) #[] #[])
theorem row5E {w : World} {r : Nat} {a b c d f : Value} {t : TypeId} (h : w.heap[r]? = some (.cells #[a, b, c, d, f] t (0, 0))) :
    (w.cell? ⟨r, 0, none⟩ = some a ∧ w.cell? ⟨r, 1, none⟩ = some b ∧ w.cell? ⟨r, 2, none⟩ = some c ∧ w.cell? ⟨r, 3, none⟩ = some d ∧ w.cell? ⟨r, 4, none⟩ = some f) ∧
    w.frozen? ⟨r, 0, none⟩ = false ∧ w.frozen? ⟨r, 1, none⟩ = false ∧ w.frozen? ⟨r, 2, none⟩ = false ∧ w.frozen? ⟨r, 3, none⟩ = false ∧ w.frozen? ⟨r, 4, none⟩ = false := by
  refine ⟨⟨?_, ?_, ?_, ?_, ?_⟩, ?_, ?_, ?_, ?_, ?_⟩
  all_goals first | (simp only [World.cell?, h]; rfl) | (simp only [World.frozen?, h]; rfl)
theorem sc5E {w : World} {r : Nat} {a b c d f : Value} {t : TypeId} (v1 v2 v3 v4 v5 : Value) (h : w.heap[r]? = some (.cells #[a, b, c, d, f] t (0, 0))) :
    (((((w.setCell ⟨r, 0, none⟩ v1).setCell ⟨r, 1, none⟩ v2).setCell ⟨r, 2, none⟩ v3).setCell ⟨r, 3, none⟩ v4).setCell ⟨r, 4, none⟩ v5).heap[r]? = some (.cells #[v1, v2, v3, v4, v5] t (0, 0)) := by
  simp [World.setCell, Array.getElem?_modify, h]
theorem sc5_cell {w : World} {r q : Nat} {u : Value} (v1 v2 v3 v4 v5 : Value) (hne : r ≠ q) (h : w.cell? ⟨q, 0, none⟩ = some u) :
    (((((w.setCell ⟨r, 0, none⟩ v1).setCell ⟨r, 1, none⟩ v2).setCell ⟨r, 2, none⟩ v3).setCell ⟨r, 3, none⟩ v4).setCell ⟨r, 4, none⟩ v5).cell? ⟨q, 0, none⟩ = some u := by
  have e : ∀ (w : World) (k : Nat) (v : Value), (w.setCell ⟨r, k, none⟩ v).cell? ⟨q, 0, none⟩ = w.cell? ⟨q, 0, none⟩ := fun w k v => World.cell?_setCell_other _ _ _ _ (by simp)
  rw [e, e, e, e, e]; exact h
theorem rowsC (w : World) (z : Array Value) (x y : Value) (t s : TypeId) {w5 : World} (h5 : ((w.alloc (.cells z t (0, 0))).alloc (.cells #[x] s (0, 0))).alloc (.cells #[y] s (0, 0)) = w5) :
    w5.heap[w.heap.size]? = some (.cells z t (0, 0)) ∧ w5.cell? ⟨w.heap.size + 1, 0, none⟩ = some x ∧ w5.cell? ⟨w.heap.size + 1 + 1, 0, none⟩ = some y ∧ Below w.heap.size w w5 := by
  have hh : w5.heap = ((w.heap.push (.cells z t (0, 0))).push (.cells #[x] s (0, 0))).push (.cells #[y] s (0, 0)) := by subst h5; rfl
  have B : Below w.heap.size w w5 := by
    subst h5
    exact (((Below.refl _ w).alloc (Nat.le_refl _) _).alloc (by simp) _).alloc (by simp; omega) _
  clear h5
  have g0 : w5.heap[w.heap.size]? = some (.cells z t (0, 0)) := by
    rw [hh]; simp only [Array.getElem?_push, Array.size_push]
    rw [if_neg (by omega), if_neg (by omega), if_pos trivial]
  have g1 : w5.heap[w.heap.size + 1]? = some (.cells #[x] s (0, 0)) := by
    rw [hh]; simp only [Array.getElem?_push, Array.size_push]
    rw [if_neg (by omega), if_pos trivial]
  have g2 : w5.heap[w.heap.size + 1 + 1]? = some (.cells #[y] s (0, 0)) := by
    rw [hh]; simp only [Array.getElem?_push, Array.size_push]
    rw [if_pos trivial]
  exact ⟨g0, by simp only [World.cell?, g1]; rfl, by simp only [World.cell?, g2]; rfl, B⟩
set_option maxRecDepth 100000 in
set_option maxHeartbeats 1600000 in
theorem counts_any (w : World) : Calls Tryz.prog 21 #[] w (CntR w) := by
  have HM := Lib.hid byMonths_any
  have hoc : ∀ k, (Value.func (.func k) #[] #[]).oneCell' = true := fun _ => rfl
  have hoc2 : ∀ k q, (Value.func (.func k) #[] #[.pointer (some q)]).oneCell' = true := fun _ _ => rfl
  have HR := Lib.hid (fun w5 => @rowsC w #[.nilFunc, .nilFunc, .nilFunc, .nilFunc, .nilFunc] (.func (.func 42) #[] #[]) (.func (.func 43) #[] #[]) 43 58 w5)
  go_enter Tryz.func21, Tryz.ntmps21
  go_wp2_with (first
    | (go_at_call 41; ((with_reducible refine (HM.out 42 _).mono ?_); rintro e w1 ⟨rfl, rfl⟩))
    | (go_at_call 41; ((with_reducible refine (HM.out 43 _).mono ?_); rintro e w5 ⟨rfl, h5⟩; obtain ⟨r0, c1, c2, b0⟩ := HR.out w5 h5; have R0 := Lib.hid r0; have C1 := Lib.hid c1; have C2 := Lib.hid c2; have B0 := Lib.hid b0; obtain ⟨⟨k0, k1, k2, k3, k4⟩, f0, f1, f2, f3, f4⟩ := row5E r0; clear h5 r0 c1 c2 b0)))
  refine bodyPost_ret (results_cell_row rfl _ _ w.heap.size 43 _ (0, 0) _ rfl (sc5E _ _ _ _ _ R0.out) Tryz.underlying43 (by kernel_rfl) (by kernel_rfl)) rfl ⟨_, _, rfl, ?_, sc5_cell _ _ _ _ _ (by omega) C1.out, sc5_cell _ _ _ _ _ (by omega) C2.out⟩
  exact ((((B0.out.setCell (Nat.le_refl _) _).setCell (Nat.le_refl _) _).setCell (Nat.le_refl _) _).setCell (Nat.le_refl _) _).setCell (Nat.le_refl _) _
end Go.Proofs.YtpgfadkkfofhcaaGreatDoor

/- Layer 5: the program's walks: Days. -/
import Derived.Test.YtpgfadkkfofhcaaGreatDoorDcB
namespace Go.Proofs.YtpgfadkkfofhcaaGreatDoor
open Go Go.RowKit

/-- Days and an error. -/
def DysR (v c : Int) (w : World) (e : Ending) (w' : World) : Prop := e = .returned (.tuple #[.int .i64 v, .int .i64 c]) ∧ Below w.heap.size w w'
theorem cellsE {w : World} {r : Nat} {xs : Array Value} {t : TypeId} {fr : Nat × Nat} (h : w.heap[r]? = some (.cells xs t fr)) (k : Nat) : w.cell? ⟨r, k, none⟩ = xs[k]? := by
  simp only [World.cell?, h]
  rfl
theorem rowE {a b : World} (h : Below a.heap.size a b) {r : Nat} {o : Obj} (hc : a.heap[r]? = some o) : b.heap[r]? = some o :=
  (h.block r (lt_of_block hc)).trans hc
/-- What Days has laid when it comes to the rule. -/
structure DayW (w w5 : World) (A A1 A2 : Nat) (fs : Array Value) (n1 y1 m1 d1 n2 y2 m2 d2 : Int) (q1 q2 : Nat) : Prop where
  b : Below w.heap.size w w5
  fs : w5.heap[A]? = some (.cells fs 43 (0, 0))
  p1 : w5.heap[A1]? = some (.cells #[.int .i64 n1, .int .i64 y1, .int .i64 m1, .int .i64 d1] 46 (0, 0))
  p2 : w5.heap[A2]? = some (.cells #[.int .i64 n2, .int .i64 y2, .int .i64 m2, .int .i64 d2] 46 (0, 0))
  c1 : w5.cell? ⟨q1, 0, none⟩ = some (.func (.func 42) #[] #[])
  c2 : w5.cell? ⟨q2, 0, none⟩ = some (.func (.func 43) #[] #[])
theorem dayW_of {w w1 w2 w3 : World} {q1 q2 : Nat} {n1 y1 m1 d1 n2 y2 m2 d2 : Int} {fs : Array Value} {te : TypeId} {es : Array Value} (b1 : Below w.heap.size w w1) (c1 : w1.cell? ⟨q1, 0, none⟩ = some (.func (.func 42) #[] #[])) (c2 : w1.cell? ⟨q2, 0, none⟩ = some (.func (.func 43) #[] #[]))
    (b2 : Below (w1.alloc (.cells fs 43)).heap.size (w1.alloc (.cells fs 43)) w2) (b3 : Below (w2.alloc (.cells #[.int .i64 n1, .int .i64 y1, .int .i64 m1, .int .i64 d1] 46)).heap.size (w2.alloc (.cells #[.int .i64 n1, .int .i64 y1, .int .i64 m1, .int .i64 d1] 46)) w3) :
    DayW w ((w3.alloc (.cells #[.int .i64 n2, .int .i64 y2, .int .i64 m2, .int .i64 d2] 46)).alloc (.cells es te)) w1.heap.size w2.heap.size w3.heap.size fs n1 y1 m1 d1 n2 y2 m2 d2 q1 q2 := by
  have h3 := btE (belE w3 (.cells #[.int .i64 n2, .int .i64 y2, .int .i64 m2, .int .i64 d2] 46)) (belE _ (.cells es te))
  have h2 := btE b3 h3
  have h2' := btE (belE w2 (.cells #[.int .i64 n1, .int .i64 y1, .int .i64 m1, .int .i64 d1] 46)) h2
  have h1 := btE b2 h2'
  have h1' := btE (belE w1 (.cells fs 43)) h1
  exact ⟨btE b1 h1', rowE h1 (heap_alloc_new w1 _), rowE h2 (heap_alloc_new w2 _), rowE (belE _ _) (heap_alloc_new w3 _), cellE h1' c1, cellE h1' c2⟩

set_option maxRecDepth 100000 in
set_option maxHeartbeats 3200000 in
theorem days_0_0 (n1 y1 m1 d1 n2 y2 m2 d2 v : Int) (hlt : n1 ≤ n2) (w : World) (hv : VarD w)
    (H1 : ∀ W, VarD W → Calls Tryz.prog 22 #[.int .i64 n1] W (PlcR n1 y1 m1 d1 0 W))
    (H2 : ∀ W, VarD W → Calls Tryz.prog 22 #[.int .i64 n2] W (PlcR n2 y2 m2 d2 0 W))
    (H : ∀ W, Calls Tryz.prog 40 #[.agg #[.int .i64 n1, .int .i64 y1, .int .i64 m1, .int .i64 d1], .agg #[.int .i64 n2, .int .i64 y2, .int .i64 m2, .int .i64 d2]] W (IntE v W)) :
    Calls Tryz.prog 10 #[.int .u8 0, .int .i64 n1, .int .i64 n2] w (DysR v 0 w) := by
  have HV := Lib.hid hv
  have J1 := Lib.hid H1
  have J2 := Lib.hid H2
  have J := Lib.hid H
  have HC := Lib.hid counts_any
  clear hv H1 H2 H
  go_enter Tryz.func10, Tryz.ntmps10
  go_wp2_with (first
    | (go_at_call 21; ((with_reducible refine (HC.out _).mono ?_); rintro e w1 ⟨q1, q2, rfl, b, c1, c2⟩; have B1 := Lib.hid b; have C1 := Lib.hid c1; have C2 := Lib.hid c2; clear b c1 c2))
    | (go_at_call 22; ((with_reducible refine (J1.out _ (HV.out.below (btE B1.out (belE w1 (.cells #[.func (.func 40) #[] #[], .func (.func 40) #[] #[], .func (.func 63) #[] #[.pointer (some ⟨q1, 0, none⟩)], .func (.func 40) #[] #[], .func (.func 63) #[] #[.pointer (some ⟨q2, 0, none⟩)]] 43))))).mono ?_); rintro e w2 ⟨rfl, b⟩; have B2 := Lib.hid b; have B2' := Lib.hid (btE (btE B1.out (belE w1 _)) b); clear b))
    | (go_at_call 22; ((with_reducible refine (J2.out _ (HV.out.below (btE B2'.out (belE w2 (.cells #[.int .i64 n1, .int .i64 y1, .int .i64 m1, .int .i64 d1] 46))))).mono ?_); rintro e w3 ⟨rfl, b⟩; have B3 := Lib.hid b; have HO := Lib.hid (fun te => corE_new 0 0 (w3.alloc (.cells #[.int .i64 n2, .int .i64 y2, .int .i64 m2, .int .i64 d2] 46)) te); rw [if_pos rfl, World.size_alloc] at HO; clear b))
    | (go_at_call 23; ((with_reducible refine (HO.out _).mono ?_); rintro e w4 ⟨rfl, rfl⟩)))
  have HW := Lib.hid (dayW_of (n2 := n2) (y2 := y2) (m2 := m2) (d2 := d2) (es := #[.int .i64 0, .int .i64 0]) (te := 23) B1.out C1.out C2.out B2.out B3.out)
  generalize ((w3.alloc (.cells #[.int .i64 n2, .int .i64 y2, .int .i64 m2, .int .i64 d2] 46)).alloc (.cells #[.int .i64 0, .int .i64 0] 23)) = w5 at *
  have kf : w5.cell? ⟨w1.heap.size, 0, none⟩ = some (.func (.func 40) #[] #[]) := cellsE HW.out.fs 0
  have g0 : w5.cell? ⟨w2.heap.size, 0, none⟩ = some (.int .i64 n1) := cellsE HW.out.p1 0
  have g1 : w5.cell? ⟨w2.heap.size, 1, none⟩ = some (.int .i64 y1) := cellsE HW.out.p1 1
  have g2 : w5.cell? ⟨w2.heap.size, 2, none⟩ = some (.int .i64 m1) := cellsE HW.out.p1 2
  have g3 : w5.cell? ⟨w2.heap.size, 3, none⟩ = some (.int .i64 d1) := cellsE HW.out.p1 3
  have l0 : w5.cell? ⟨w3.heap.size, 0, none⟩ = some (.int .i64 n2) := cellsE HW.out.p2 0
  have l1 : w5.cell? ⟨w3.heap.size, 1, none⟩ = some (.int .i64 y2) := cellsE HW.out.p2 1
  have l2 : w5.cell? ⟨w3.heap.size, 2, none⟩ = some (.int .i64 m2) := cellsE HW.out.p2 2
  have l3 : w5.cell? ⟨w3.heap.size, 3, none⟩ = some (.int .i64 d2) := cellsE HW.out.p2 3
  have B5 := Below.drew HW.out.b
  go_region_held3 (fun w' => w'.cell? ⟨w1.heap.size, 0, none⟩ = some (.func (.func 40) #[] #[]) ∧ w'.cell? ⟨w2.heap.size, 0, none⟩ = some (.int .i64 n1) ∧ w'.cell? ⟨w2.heap.size, 1, none⟩ = some (.int .i64 y1) ∧ w'.cell? ⟨w2.heap.size, 2, none⟩ = some (.int .i64 m1) ∧ w'.cell? ⟨w2.heap.size, 3, none⟩ = some (.int .i64 d1) ∧ w'.cell? ⟨w3.heap.size, 0, none⟩ = some (.int .i64 n2) ∧ w'.cell? ⟨w3.heap.size, 1, none⟩ = some (.int .i64 y2) ∧ w'.cell? ⟨w3.heap.size, 2, none⟩ = some (.int .i64 m2) ∧ w'.cell? ⟨w3.heap.size, 3, none⟩ = some (.int .i64 d2))
    (((try go_split_ands); (and_intros) <;> first | assumption | (refine (b6.cell ?_).trans ?_; exact (World.block_lt_of_cell? _ _ (by assumption)); assumption) | (go_keep; done)))
    (first
      | (go_split_ands; go_at_call 40; refine (J.out _).mono ?_; rintro e w6 ⟨rfl, b6⟩; have B6 := btE B5 b6))
  go_wp2
  go_ret2
  exact ⟨rfl, B6⟩
set_option maxRecDepth 100000 in
set_option maxHeartbeats 3200000 in
theorem days_0_1 (n1 y1 m1 d1 n2 y2 m2 d2 v u : Int) (hlt : n2 < n1) (hu : IntKind.i64.wrap (-v) = u) (w : World) (hv : VarD w)
    (H1 : ∀ W, VarD W → Calls Tryz.prog 22 #[.int .i64 n1] W (PlcR n1 y1 m1 d1 0 W))
    (H2 : ∀ W, VarD W → Calls Tryz.prog 22 #[.int .i64 n2] W (PlcR n2 y2 m2 d2 0 W))
    (H : ∀ W, Calls Tryz.prog 40 #[.agg #[.int .i64 n2, .int .i64 y2, .int .i64 m2, .int .i64 d2], .agg #[.int .i64 n1, .int .i64 y1, .int .i64 m1, .int .i64 d1]] W (IntE v W)) :
    Calls Tryz.prog 10 #[.int .u8 0, .int .i64 n1, .int .i64 n2] w (DysR u 0 w) := by
  have HV := Lib.hid hv
  have J1 := Lib.hid H1
  have J2 := Lib.hid H2
  have J := Lib.hid H
  have HC := Lib.hid counts_any
  clear hv H1 H2 H
  go_enter Tryz.func10, Tryz.ntmps10
  go_wp2_with (first
    | (go_at_call 21; ((with_reducible refine (HC.out _).mono ?_); rintro e w1 ⟨q1, q2, rfl, b, c1, c2⟩; have B1 := Lib.hid b; have C1 := Lib.hid c1; have C2 := Lib.hid c2; clear b c1 c2))
    | (go_at_call 22; ((with_reducible refine (J1.out _ (HV.out.below (btE B1.out (belE w1 (.cells #[.func (.func 40) #[] #[], .func (.func 40) #[] #[], .func (.func 63) #[] #[.pointer (some ⟨q1, 0, none⟩)], .func (.func 40) #[] #[], .func (.func 63) #[] #[.pointer (some ⟨q2, 0, none⟩)]] 43))))).mono ?_); rintro e w2 ⟨rfl, b⟩; have B2 := Lib.hid b; have B2' := Lib.hid (btE (btE B1.out (belE w1 _)) b); clear b))
    | (go_at_call 22; ((with_reducible refine (J2.out _ (HV.out.below (btE B2'.out (belE w2 (.cells #[.int .i64 n1, .int .i64 y1, .int .i64 m1, .int .i64 d1] 46))))).mono ?_); rintro e w3 ⟨rfl, b⟩; have B3 := Lib.hid b; have HO := Lib.hid (fun te => corE_new 0 0 (w3.alloc (.cells #[.int .i64 n2, .int .i64 y2, .int .i64 m2, .int .i64 d2] 46)) te); rw [if_pos rfl, World.size_alloc] at HO; clear b))
    | (go_at_call 23; ((with_reducible refine (HO.out _).mono ?_); rintro e w4 ⟨rfl, rfl⟩)))
  have HW := Lib.hid (dayW_of (n2 := n2) (y2 := y2) (m2 := m2) (d2 := d2) (es := #[.int .i64 0, .int .i64 0]) (te := 23) B1.out C1.out C2.out B2.out B3.out)
  generalize ((w3.alloc (.cells #[.int .i64 n2, .int .i64 y2, .int .i64 m2, .int .i64 d2] 46)).alloc (.cells #[.int .i64 0, .int .i64 0] 23)) = w5 at *
  have kf : w5.cell? ⟨w1.heap.size, 0, none⟩ = some (.func (.func 40) #[] #[]) := cellsE HW.out.fs 0
  have g0 : w5.cell? ⟨w2.heap.size, 0, none⟩ = some (.int .i64 n1) := cellsE HW.out.p1 0
  have g1 : w5.cell? ⟨w2.heap.size, 1, none⟩ = some (.int .i64 y1) := cellsE HW.out.p1 1
  have g2 : w5.cell? ⟨w2.heap.size, 2, none⟩ = some (.int .i64 m1) := cellsE HW.out.p1 2
  have g3 : w5.cell? ⟨w2.heap.size, 3, none⟩ = some (.int .i64 d1) := cellsE HW.out.p1 3
  have l0 : w5.cell? ⟨w3.heap.size, 0, none⟩ = some (.int .i64 n2) := cellsE HW.out.p2 0
  have l1 : w5.cell? ⟨w3.heap.size, 1, none⟩ = some (.int .i64 y2) := cellsE HW.out.p2 1
  have l2 : w5.cell? ⟨w3.heap.size, 2, none⟩ = some (.int .i64 m2) := cellsE HW.out.p2 2
  have l3 : w5.cell? ⟨w3.heap.size, 3, none⟩ = some (.int .i64 d2) := cellsE HW.out.p2 3
  have B5 := Below.drew HW.out.b
  go_region_held3 (fun w' => w'.cell? ⟨w1.heap.size, 0, none⟩ = some (.func (.func 40) #[] #[]) ∧ w'.cell? ⟨w2.heap.size, 0, none⟩ = some (.int .i64 n1) ∧ w'.cell? ⟨w2.heap.size, 1, none⟩ = some (.int .i64 y1) ∧ w'.cell? ⟨w2.heap.size, 2, none⟩ = some (.int .i64 m1) ∧ w'.cell? ⟨w2.heap.size, 3, none⟩ = some (.int .i64 d1) ∧ w'.cell? ⟨w3.heap.size, 0, none⟩ = some (.int .i64 n2) ∧ w'.cell? ⟨w3.heap.size, 1, none⟩ = some (.int .i64 y2) ∧ w'.cell? ⟨w3.heap.size, 2, none⟩ = some (.int .i64 m2) ∧ w'.cell? ⟨w3.heap.size, 3, none⟩ = some (.int .i64 d2))
    (((try go_split_ands); (and_intros) <;> first | assumption | (refine (b6.cell ?_).trans ?_; exact (World.block_lt_of_cell? _ _ (by assumption)); assumption) | (go_keep; done)))
    (first
      | (go_split_ands; go_at_call 40; refine (J.out _).mono ?_; rintro e w6 ⟨rfl, b6⟩; have B6 := btE B5 b6))
  go_wp2
  go_ret2
  exact ⟨rfl, B6⟩
set_option maxRecDepth 100000 in
set_option maxHeartbeats 3200000 in
theorem days_1_0 (n1 y1 m1 d1 n2 y2 m2 d2 v : Int) (hlt : n1 ≤ n2) (w : World) (hv : VarD w)
    (H1 : ∀ W, VarD W → Calls Tryz.prog 22 #[.int .i64 n1] W (PlcR n1 y1 m1 d1 0 W))
    (H2 : ∀ W, VarD W → Calls Tryz.prog 22 #[.int .i64 n2] W (PlcR n2 y2 m2 d2 0 W))
    (H : ∀ W, Calls Tryz.prog 40 #[.agg #[.int .i64 n1, .int .i64 y1, .int .i64 m1, .int .i64 d1], .agg #[.int .i64 n2, .int .i64 y2, .int .i64 m2, .int .i64 d2]] W (IntE v W)) :
    Calls Tryz.prog 10 #[.int .u8 1, .int .i64 n1, .int .i64 n2] w (DysR v 0 w) := by
  have HV := Lib.hid hv
  have J1 := Lib.hid H1
  have J2 := Lib.hid H2
  have J := Lib.hid H
  have HC := Lib.hid counts_any
  clear hv H1 H2 H
  go_enter Tryz.func10, Tryz.ntmps10
  go_wp2_with (first
    | (go_at_call 21; ((with_reducible refine (HC.out _).mono ?_); rintro e w1 ⟨q1, q2, rfl, b, c1, c2⟩; have B1 := Lib.hid b; have C1 := Lib.hid c1; have C2 := Lib.hid c2; clear b c1 c2))
    | (go_at_call 22; ((with_reducible refine (J1.out _ (HV.out.below (btE B1.out (belE w1 (.cells #[.func (.func 40) #[] #[], .func (.func 40) #[] #[], .func (.func 63) #[] #[.pointer (some ⟨q1, 0, none⟩)], .func (.func 40) #[] #[], .func (.func 63) #[] #[.pointer (some ⟨q2, 0, none⟩)]] 43))))).mono ?_); rintro e w2 ⟨rfl, b⟩; have B2 := Lib.hid b; have B2' := Lib.hid (btE (btE B1.out (belE w1 _)) b); clear b))
    | (go_at_call 22; ((with_reducible refine (J2.out _ (HV.out.below (btE B2'.out (belE w2 (.cells #[.int .i64 n1, .int .i64 y1, .int .i64 m1, .int .i64 d1] 46))))).mono ?_); rintro e w3 ⟨rfl, b⟩; have B3 := Lib.hid b; have HO := Lib.hid (fun te => corE_new 0 0 (w3.alloc (.cells #[.int .i64 n2, .int .i64 y2, .int .i64 m2, .int .i64 d2] 46)) te); rw [if_pos rfl, World.size_alloc] at HO; clear b))
    | (go_at_call 23; ((with_reducible refine (HO.out _).mono ?_); rintro e w4 ⟨rfl, rfl⟩)))
  have HW := Lib.hid (dayW_of (n2 := n2) (y2 := y2) (m2 := m2) (d2 := d2) (es := #[.int .i64 0, .int .i64 0]) (te := 23) B1.out C1.out C2.out B2.out B3.out)
  generalize ((w3.alloc (.cells #[.int .i64 n2, .int .i64 y2, .int .i64 m2, .int .i64 d2] 46)).alloc (.cells #[.int .i64 0, .int .i64 0] 23)) = w5 at *
  have kf : w5.cell? ⟨w1.heap.size, 1, none⟩ = some (.func (.func 40) #[] #[]) := cellsE HW.out.fs 1
  have g0 : w5.cell? ⟨w2.heap.size, 0, none⟩ = some (.int .i64 n1) := cellsE HW.out.p1 0
  have g1 : w5.cell? ⟨w2.heap.size, 1, none⟩ = some (.int .i64 y1) := cellsE HW.out.p1 1
  have g2 : w5.cell? ⟨w2.heap.size, 2, none⟩ = some (.int .i64 m1) := cellsE HW.out.p1 2
  have g3 : w5.cell? ⟨w2.heap.size, 3, none⟩ = some (.int .i64 d1) := cellsE HW.out.p1 3
  have l0 : w5.cell? ⟨w3.heap.size, 0, none⟩ = some (.int .i64 n2) := cellsE HW.out.p2 0
  have l1 : w5.cell? ⟨w3.heap.size, 1, none⟩ = some (.int .i64 y2) := cellsE HW.out.p2 1
  have l2 : w5.cell? ⟨w3.heap.size, 2, none⟩ = some (.int .i64 m2) := cellsE HW.out.p2 2
  have l3 : w5.cell? ⟨w3.heap.size, 3, none⟩ = some (.int .i64 d2) := cellsE HW.out.p2 3
  have B5 := Below.drew HW.out.b
  go_region_held3 (fun w' => w'.cell? ⟨w1.heap.size, 1, none⟩ = some (.func (.func 40) #[] #[]) ∧ w'.cell? ⟨w2.heap.size, 0, none⟩ = some (.int .i64 n1) ∧ w'.cell? ⟨w2.heap.size, 1, none⟩ = some (.int .i64 y1) ∧ w'.cell? ⟨w2.heap.size, 2, none⟩ = some (.int .i64 m1) ∧ w'.cell? ⟨w2.heap.size, 3, none⟩ = some (.int .i64 d1) ∧ w'.cell? ⟨w3.heap.size, 0, none⟩ = some (.int .i64 n2) ∧ w'.cell? ⟨w3.heap.size, 1, none⟩ = some (.int .i64 y2) ∧ w'.cell? ⟨w3.heap.size, 2, none⟩ = some (.int .i64 m2) ∧ w'.cell? ⟨w3.heap.size, 3, none⟩ = some (.int .i64 d2))
    (((try go_split_ands); (and_intros) <;> first | assumption | (refine (b6.cell ?_).trans ?_; exact (World.block_lt_of_cell? _ _ (by assumption)); assumption) | (go_keep; done)))
    (first
      | (go_split_ands; go_at_call 40; refine (J.out _).mono ?_; rintro e w6 ⟨rfl, b6⟩; have B6 := btE B5 b6))
  go_wp2
  go_ret2
  exact ⟨rfl, B6⟩
set_option maxRecDepth 100000 in
set_option maxHeartbeats 3200000 in
theorem days_1_1 (n1 y1 m1 d1 n2 y2 m2 d2 v u : Int) (hlt : n2 < n1) (hu : IntKind.i64.wrap (-v) = u) (w : World) (hv : VarD w)
    (H1 : ∀ W, VarD W → Calls Tryz.prog 22 #[.int .i64 n1] W (PlcR n1 y1 m1 d1 0 W))
    (H2 : ∀ W, VarD W → Calls Tryz.prog 22 #[.int .i64 n2] W (PlcR n2 y2 m2 d2 0 W))
    (H : ∀ W, Calls Tryz.prog 40 #[.agg #[.int .i64 n2, .int .i64 y2, .int .i64 m2, .int .i64 d2], .agg #[.int .i64 n1, .int .i64 y1, .int .i64 m1, .int .i64 d1]] W (IntE v W)) :
    Calls Tryz.prog 10 #[.int .u8 1, .int .i64 n1, .int .i64 n2] w (DysR u 0 w) := by
  have HV := Lib.hid hv
  have J1 := Lib.hid H1
  have J2 := Lib.hid H2
  have J := Lib.hid H
  have HC := Lib.hid counts_any
  clear hv H1 H2 H
  go_enter Tryz.func10, Tryz.ntmps10
  go_wp2_with (first
    | (go_at_call 21; ((with_reducible refine (HC.out _).mono ?_); rintro e w1 ⟨q1, q2, rfl, b, c1, c2⟩; have B1 := Lib.hid b; have C1 := Lib.hid c1; have C2 := Lib.hid c2; clear b c1 c2))
    | (go_at_call 22; ((with_reducible refine (J1.out _ (HV.out.below (btE B1.out (belE w1 (.cells #[.func (.func 40) #[] #[], .func (.func 40) #[] #[], .func (.func 63) #[] #[.pointer (some ⟨q1, 0, none⟩)], .func (.func 40) #[] #[], .func (.func 63) #[] #[.pointer (some ⟨q2, 0, none⟩)]] 43))))).mono ?_); rintro e w2 ⟨rfl, b⟩; have B2 := Lib.hid b; have B2' := Lib.hid (btE (btE B1.out (belE w1 _)) b); clear b))
    | (go_at_call 22; ((with_reducible refine (J2.out _ (HV.out.below (btE B2'.out (belE w2 (.cells #[.int .i64 n1, .int .i64 y1, .int .i64 m1, .int .i64 d1] 46))))).mono ?_); rintro e w3 ⟨rfl, b⟩; have B3 := Lib.hid b; have HO := Lib.hid (fun te => corE_new 0 0 (w3.alloc (.cells #[.int .i64 n2, .int .i64 y2, .int .i64 m2, .int .i64 d2] 46)) te); rw [if_pos rfl, World.size_alloc] at HO; clear b))
    | (go_at_call 23; ((with_reducible refine (HO.out _).mono ?_); rintro e w4 ⟨rfl, rfl⟩)))
  have HW := Lib.hid (dayW_of (n2 := n2) (y2 := y2) (m2 := m2) (d2 := d2) (es := #[.int .i64 0, .int .i64 0]) (te := 23) B1.out C1.out C2.out B2.out B3.out)
  generalize ((w3.alloc (.cells #[.int .i64 n2, .int .i64 y2, .int .i64 m2, .int .i64 d2] 46)).alloc (.cells #[.int .i64 0, .int .i64 0] 23)) = w5 at *
  have kf : w5.cell? ⟨w1.heap.size, 1, none⟩ = some (.func (.func 40) #[] #[]) := cellsE HW.out.fs 1
  have g0 : w5.cell? ⟨w2.heap.size, 0, none⟩ = some (.int .i64 n1) := cellsE HW.out.p1 0
  have g1 : w5.cell? ⟨w2.heap.size, 1, none⟩ = some (.int .i64 y1) := cellsE HW.out.p1 1
  have g2 : w5.cell? ⟨w2.heap.size, 2, none⟩ = some (.int .i64 m1) := cellsE HW.out.p1 2
  have g3 : w5.cell? ⟨w2.heap.size, 3, none⟩ = some (.int .i64 d1) := cellsE HW.out.p1 3
  have l0 : w5.cell? ⟨w3.heap.size, 0, none⟩ = some (.int .i64 n2) := cellsE HW.out.p2 0
  have l1 : w5.cell? ⟨w3.heap.size, 1, none⟩ = some (.int .i64 y2) := cellsE HW.out.p2 1
  have l2 : w5.cell? ⟨w3.heap.size, 2, none⟩ = some (.int .i64 m2) := cellsE HW.out.p2 2
  have l3 : w5.cell? ⟨w3.heap.size, 3, none⟩ = some (.int .i64 d2) := cellsE HW.out.p2 3
  have B5 := Below.drew HW.out.b
  go_region_held3 (fun w' => w'.cell? ⟨w1.heap.size, 1, none⟩ = some (.func (.func 40) #[] #[]) ∧ w'.cell? ⟨w2.heap.size, 0, none⟩ = some (.int .i64 n1) ∧ w'.cell? ⟨w2.heap.size, 1, none⟩ = some (.int .i64 y1) ∧ w'.cell? ⟨w2.heap.size, 2, none⟩ = some (.int .i64 m1) ∧ w'.cell? ⟨w2.heap.size, 3, none⟩ = some (.int .i64 d1) ∧ w'.cell? ⟨w3.heap.size, 0, none⟩ = some (.int .i64 n2) ∧ w'.cell? ⟨w3.heap.size, 1, none⟩ = some (.int .i64 y2) ∧ w'.cell? ⟨w3.heap.size, 2, none⟩ = some (.int .i64 m2) ∧ w'.cell? ⟨w3.heap.size, 3, none⟩ = some (.int .i64 d2))
    (((try go_split_ands); (and_intros) <;> first | assumption | (refine (b6.cell ?_).trans ?_; exact (World.block_lt_of_cell? _ _ (by assumption)); assumption) | (go_keep; done)))
    (first
      | (go_split_ands; go_at_call 40; refine (J.out _).mono ?_; rintro e w6 ⟨rfl, b6⟩; have B6 := btE B5 b6))
  go_wp2
  go_ret2
  exact ⟨rfl, B6⟩
set_option maxRecDepth 100000 in
set_option maxHeartbeats 3200000 in
theorem days_2_0 (n1 y1 m1 d1 n2 y2 m2 d2 v : Int) (hlt : n1 ≤ n2) (w : World) (hv : VarD w)
    (H1 : ∀ W, VarD W → Calls Tryz.prog 22 #[.int .i64 n1] W (PlcR n1 y1 m1 d1 0 W))
    (H2 : ∀ W, VarD W → Calls Tryz.prog 22 #[.int .i64 n2] W (PlcR n2 y2 m2 d2 0 W))
    (H : ∀ q W, W.cell? ⟨q, 0, none⟩ = some (.func (.func 42) #[] #[]) → Calls Tryz.prog 63 #[.agg #[.int .i64 n1, .int .i64 y1, .int .i64 m1, .int .i64 d1], .agg #[.int .i64 n2, .int .i64 y2, .int .i64 m2, .int .i64 d2], .pointer (some ⟨q, 0, none⟩)] W (IntE v W)) :
    Calls Tryz.prog 10 #[.int .u8 2, .int .i64 n1, .int .i64 n2] w (DysR v 0 w) := by
  have HV := Lib.hid hv
  have J1 := Lib.hid H1
  have J2 := Lib.hid H2
  have J := Lib.hid H
  have HC := Lib.hid counts_any
  clear hv H1 H2 H
  go_enter Tryz.func10, Tryz.ntmps10
  go_wp2_with (first
    | (go_at_call 21; ((with_reducible refine (HC.out _).mono ?_); rintro e w1 ⟨q1, q2, rfl, b, c1, c2⟩; have B1 := Lib.hid b; have C1 := Lib.hid c1; have C2 := Lib.hid c2; clear b c1 c2))
    | (go_at_call 22; ((with_reducible refine (J1.out _ (HV.out.below (btE B1.out (belE w1 (.cells #[.func (.func 40) #[] #[], .func (.func 40) #[] #[], .func (.func 63) #[] #[.pointer (some ⟨q1, 0, none⟩)], .func (.func 40) #[] #[], .func (.func 63) #[] #[.pointer (some ⟨q2, 0, none⟩)]] 43))))).mono ?_); rintro e w2 ⟨rfl, b⟩; have B2 := Lib.hid b; have B2' := Lib.hid (btE (btE B1.out (belE w1 _)) b); clear b))
    | (go_at_call 22; ((with_reducible refine (J2.out _ (HV.out.below (btE B2'.out (belE w2 (.cells #[.int .i64 n1, .int .i64 y1, .int .i64 m1, .int .i64 d1] 46))))).mono ?_); rintro e w3 ⟨rfl, b⟩; have B3 := Lib.hid b; have HO := Lib.hid (fun te => corE_new 0 0 (w3.alloc (.cells #[.int .i64 n2, .int .i64 y2, .int .i64 m2, .int .i64 d2] 46)) te); rw [if_pos rfl, World.size_alloc] at HO; clear b))
    | (go_at_call 23; ((with_reducible refine (HO.out _).mono ?_); rintro e w4 ⟨rfl, rfl⟩)))
  have HW := Lib.hid (dayW_of (n2 := n2) (y2 := y2) (m2 := m2) (d2 := d2) (es := #[.int .i64 0, .int .i64 0]) (te := 23) B1.out C1.out C2.out B2.out B3.out)
  generalize ((w3.alloc (.cells #[.int .i64 n2, .int .i64 y2, .int .i64 m2, .int .i64 d2] 46)).alloc (.cells #[.int .i64 0, .int .i64 0] 23)) = w5 at *
  have kf : w5.cell? ⟨w1.heap.size, 2, none⟩ = some (.func (.func 63) #[] #[.pointer (some ⟨q1, 0, none⟩)]) := cellsE HW.out.fs 2
  have g0 : w5.cell? ⟨w2.heap.size, 0, none⟩ = some (.int .i64 n1) := cellsE HW.out.p1 0
  have g1 : w5.cell? ⟨w2.heap.size, 1, none⟩ = some (.int .i64 y1) := cellsE HW.out.p1 1
  have g2 : w5.cell? ⟨w2.heap.size, 2, none⟩ = some (.int .i64 m1) := cellsE HW.out.p1 2
  have g3 : w5.cell? ⟨w2.heap.size, 3, none⟩ = some (.int .i64 d1) := cellsE HW.out.p1 3
  have l0 : w5.cell? ⟨w3.heap.size, 0, none⟩ = some (.int .i64 n2) := cellsE HW.out.p2 0
  have l1 : w5.cell? ⟨w3.heap.size, 1, none⟩ = some (.int .i64 y2) := cellsE HW.out.p2 1
  have l2 : w5.cell? ⟨w3.heap.size, 2, none⟩ = some (.int .i64 m2) := cellsE HW.out.p2 2
  have l3 : w5.cell? ⟨w3.heap.size, 3, none⟩ = some (.int .i64 d2) := cellsE HW.out.p2 3
  have kc := HW.out.c1
  have B5 := Below.drew HW.out.b
  go_region_held3 (fun w' => w'.cell? ⟨w1.heap.size, 2, none⟩ = some (.func (.func 63) #[] #[.pointer (some ⟨q1, 0, none⟩)]) ∧ w'.cell? ⟨w2.heap.size, 0, none⟩ = some (.int .i64 n1) ∧ w'.cell? ⟨w2.heap.size, 1, none⟩ = some (.int .i64 y1) ∧ w'.cell? ⟨w2.heap.size, 2, none⟩ = some (.int .i64 m1) ∧ w'.cell? ⟨w2.heap.size, 3, none⟩ = some (.int .i64 d1) ∧ w'.cell? ⟨w3.heap.size, 0, none⟩ = some (.int .i64 n2) ∧ w'.cell? ⟨w3.heap.size, 1, none⟩ = some (.int .i64 y2) ∧ w'.cell? ⟨w3.heap.size, 2, none⟩ = some (.int .i64 m2) ∧ w'.cell? ⟨w3.heap.size, 3, none⟩ = some (.int .i64 d2) ∧ w'.cell? ⟨q1, 0, none⟩ = some (.func (.func 42) #[] #[]))
    (((try go_split_ands); (and_intros) <;> first | assumption | (refine (b6.cell ?_).trans ?_; exact (World.block_lt_of_cell? _ _ (by assumption)); assumption) | (go_keep; done)))
    (first
      | (go_split_ands; go_at_call 63; refine (J.out _ _ (by assumption)).mono ?_; rintro e w6 ⟨rfl, b6⟩; have B6 := btE B5 b6))
  go_wp2
  go_ret2
  exact ⟨rfl, B6⟩
set_option maxRecDepth 100000 in
set_option maxHeartbeats 3200000 in
theorem days_2_1 (n1 y1 m1 d1 n2 y2 m2 d2 v u : Int) (hlt : n2 < n1) (hu : IntKind.i64.wrap (-v) = u) (w : World) (hv : VarD w)
    (H1 : ∀ W, VarD W → Calls Tryz.prog 22 #[.int .i64 n1] W (PlcR n1 y1 m1 d1 0 W))
    (H2 : ∀ W, VarD W → Calls Tryz.prog 22 #[.int .i64 n2] W (PlcR n2 y2 m2 d2 0 W))
    (H : ∀ q W, W.cell? ⟨q, 0, none⟩ = some (.func (.func 42) #[] #[]) → Calls Tryz.prog 63 #[.agg #[.int .i64 n2, .int .i64 y2, .int .i64 m2, .int .i64 d2], .agg #[.int .i64 n1, .int .i64 y1, .int .i64 m1, .int .i64 d1], .pointer (some ⟨q, 0, none⟩)] W (IntE v W)) :
    Calls Tryz.prog 10 #[.int .u8 2, .int .i64 n1, .int .i64 n2] w (DysR u 0 w) := by
  have HV := Lib.hid hv
  have J1 := Lib.hid H1
  have J2 := Lib.hid H2
  have J := Lib.hid H
  have HC := Lib.hid counts_any
  clear hv H1 H2 H
  go_enter Tryz.func10, Tryz.ntmps10
  go_wp2_with (first
    | (go_at_call 21; ((with_reducible refine (HC.out _).mono ?_); rintro e w1 ⟨q1, q2, rfl, b, c1, c2⟩; have B1 := Lib.hid b; have C1 := Lib.hid c1; have C2 := Lib.hid c2; clear b c1 c2))
    | (go_at_call 22; ((with_reducible refine (J1.out _ (HV.out.below (btE B1.out (belE w1 (.cells #[.func (.func 40) #[] #[], .func (.func 40) #[] #[], .func (.func 63) #[] #[.pointer (some ⟨q1, 0, none⟩)], .func (.func 40) #[] #[], .func (.func 63) #[] #[.pointer (some ⟨q2, 0, none⟩)]] 43))))).mono ?_); rintro e w2 ⟨rfl, b⟩; have B2 := Lib.hid b; have B2' := Lib.hid (btE (btE B1.out (belE w1 _)) b); clear b))
    | (go_at_call 22; ((with_reducible refine (J2.out _ (HV.out.below (btE B2'.out (belE w2 (.cells #[.int .i64 n1, .int .i64 y1, .int .i64 m1, .int .i64 d1] 46))))).mono ?_); rintro e w3 ⟨rfl, b⟩; have B3 := Lib.hid b; have HO := Lib.hid (fun te => corE_new 0 0 (w3.alloc (.cells #[.int .i64 n2, .int .i64 y2, .int .i64 m2, .int .i64 d2] 46)) te); rw [if_pos rfl, World.size_alloc] at HO; clear b))
    | (go_at_call 23; ((with_reducible refine (HO.out _).mono ?_); rintro e w4 ⟨rfl, rfl⟩)))
  have HW := Lib.hid (dayW_of (n2 := n2) (y2 := y2) (m2 := m2) (d2 := d2) (es := #[.int .i64 0, .int .i64 0]) (te := 23) B1.out C1.out C2.out B2.out B3.out)
  generalize ((w3.alloc (.cells #[.int .i64 n2, .int .i64 y2, .int .i64 m2, .int .i64 d2] 46)).alloc (.cells #[.int .i64 0, .int .i64 0] 23)) = w5 at *
  have kf : w5.cell? ⟨w1.heap.size, 2, none⟩ = some (.func (.func 63) #[] #[.pointer (some ⟨q1, 0, none⟩)]) := cellsE HW.out.fs 2
  have g0 : w5.cell? ⟨w2.heap.size, 0, none⟩ = some (.int .i64 n1) := cellsE HW.out.p1 0
  have g1 : w5.cell? ⟨w2.heap.size, 1, none⟩ = some (.int .i64 y1) := cellsE HW.out.p1 1
  have g2 : w5.cell? ⟨w2.heap.size, 2, none⟩ = some (.int .i64 m1) := cellsE HW.out.p1 2
  have g3 : w5.cell? ⟨w2.heap.size, 3, none⟩ = some (.int .i64 d1) := cellsE HW.out.p1 3
  have l0 : w5.cell? ⟨w3.heap.size, 0, none⟩ = some (.int .i64 n2) := cellsE HW.out.p2 0
  have l1 : w5.cell? ⟨w3.heap.size, 1, none⟩ = some (.int .i64 y2) := cellsE HW.out.p2 1
  have l2 : w5.cell? ⟨w3.heap.size, 2, none⟩ = some (.int .i64 m2) := cellsE HW.out.p2 2
  have l3 : w5.cell? ⟨w3.heap.size, 3, none⟩ = some (.int .i64 d2) := cellsE HW.out.p2 3
  have kc := HW.out.c1
  have B5 := Below.drew HW.out.b
  go_region_held3 (fun w' => w'.cell? ⟨w1.heap.size, 2, none⟩ = some (.func (.func 63) #[] #[.pointer (some ⟨q1, 0, none⟩)]) ∧ w'.cell? ⟨w2.heap.size, 0, none⟩ = some (.int .i64 n1) ∧ w'.cell? ⟨w2.heap.size, 1, none⟩ = some (.int .i64 y1) ∧ w'.cell? ⟨w2.heap.size, 2, none⟩ = some (.int .i64 m1) ∧ w'.cell? ⟨w2.heap.size, 3, none⟩ = some (.int .i64 d1) ∧ w'.cell? ⟨w3.heap.size, 0, none⟩ = some (.int .i64 n2) ∧ w'.cell? ⟨w3.heap.size, 1, none⟩ = some (.int .i64 y2) ∧ w'.cell? ⟨w3.heap.size, 2, none⟩ = some (.int .i64 m2) ∧ w'.cell? ⟨w3.heap.size, 3, none⟩ = some (.int .i64 d2) ∧ w'.cell? ⟨q1, 0, none⟩ = some (.func (.func 42) #[] #[]))
    (((try go_split_ands); (and_intros) <;> first | assumption | (refine (b6.cell ?_).trans ?_; exact (World.block_lt_of_cell? _ _ (by assumption)); assumption) | (go_keep; done)))
    (first
      | (go_split_ands; go_at_call 63; refine (J.out _ _ (by assumption)).mono ?_; rintro e w6 ⟨rfl, b6⟩; have B6 := btE B5 b6))
  go_wp2
  go_ret2
  exact ⟨rfl, B6⟩
set_option maxRecDepth 100000 in
set_option maxHeartbeats 3200000 in
theorem days_3_0 (n1 y1 m1 d1 n2 y2 m2 d2 v : Int) (hlt : n1 ≤ n2) (w : World) (hv : VarD w)
    (H1 : ∀ W, VarD W → Calls Tryz.prog 22 #[.int .i64 n1] W (PlcR n1 y1 m1 d1 0 W))
    (H2 : ∀ W, VarD W → Calls Tryz.prog 22 #[.int .i64 n2] W (PlcR n2 y2 m2 d2 0 W))
    (H : ∀ W, Calls Tryz.prog 40 #[.agg #[.int .i64 n1, .int .i64 y1, .int .i64 m1, .int .i64 d1], .agg #[.int .i64 n2, .int .i64 y2, .int .i64 m2, .int .i64 d2]] W (IntE v W)) :
    Calls Tryz.prog 10 #[.int .u8 3, .int .i64 n1, .int .i64 n2] w (DysR v 0 w) := by
  have HV := Lib.hid hv
  have J1 := Lib.hid H1
  have J2 := Lib.hid H2
  have J := Lib.hid H
  have HC := Lib.hid counts_any
  clear hv H1 H2 H
  go_enter Tryz.func10, Tryz.ntmps10
  go_wp2_with (first
    | (go_at_call 21; ((with_reducible refine (HC.out _).mono ?_); rintro e w1 ⟨q1, q2, rfl, b, c1, c2⟩; have B1 := Lib.hid b; have C1 := Lib.hid c1; have C2 := Lib.hid c2; clear b c1 c2))
    | (go_at_call 22; ((with_reducible refine (J1.out _ (HV.out.below (btE B1.out (belE w1 (.cells #[.func (.func 40) #[] #[], .func (.func 40) #[] #[], .func (.func 63) #[] #[.pointer (some ⟨q1, 0, none⟩)], .func (.func 40) #[] #[], .func (.func 63) #[] #[.pointer (some ⟨q2, 0, none⟩)]] 43))))).mono ?_); rintro e w2 ⟨rfl, b⟩; have B2 := Lib.hid b; have B2' := Lib.hid (btE (btE B1.out (belE w1 _)) b); clear b))
    | (go_at_call 22; ((with_reducible refine (J2.out _ (HV.out.below (btE B2'.out (belE w2 (.cells #[.int .i64 n1, .int .i64 y1, .int .i64 m1, .int .i64 d1] 46))))).mono ?_); rintro e w3 ⟨rfl, b⟩; have B3 := Lib.hid b; have HO := Lib.hid (fun te => corE_new 0 0 (w3.alloc (.cells #[.int .i64 n2, .int .i64 y2, .int .i64 m2, .int .i64 d2] 46)) te); rw [if_pos rfl, World.size_alloc] at HO; clear b))
    | (go_at_call 23; ((with_reducible refine (HO.out _).mono ?_); rintro e w4 ⟨rfl, rfl⟩)))
  have HW := Lib.hid (dayW_of (n2 := n2) (y2 := y2) (m2 := m2) (d2 := d2) (es := #[.int .i64 0, .int .i64 0]) (te := 23) B1.out C1.out C2.out B2.out B3.out)
  generalize ((w3.alloc (.cells #[.int .i64 n2, .int .i64 y2, .int .i64 m2, .int .i64 d2] 46)).alloc (.cells #[.int .i64 0, .int .i64 0] 23)) = w5 at *
  have kf : w5.cell? ⟨w1.heap.size, 3, none⟩ = some (.func (.func 40) #[] #[]) := cellsE HW.out.fs 3
  have g0 : w5.cell? ⟨w2.heap.size, 0, none⟩ = some (.int .i64 n1) := cellsE HW.out.p1 0
  have g1 : w5.cell? ⟨w2.heap.size, 1, none⟩ = some (.int .i64 y1) := cellsE HW.out.p1 1
  have g2 : w5.cell? ⟨w2.heap.size, 2, none⟩ = some (.int .i64 m1) := cellsE HW.out.p1 2
  have g3 : w5.cell? ⟨w2.heap.size, 3, none⟩ = some (.int .i64 d1) := cellsE HW.out.p1 3
  have l0 : w5.cell? ⟨w3.heap.size, 0, none⟩ = some (.int .i64 n2) := cellsE HW.out.p2 0
  have l1 : w5.cell? ⟨w3.heap.size, 1, none⟩ = some (.int .i64 y2) := cellsE HW.out.p2 1
  have l2 : w5.cell? ⟨w3.heap.size, 2, none⟩ = some (.int .i64 m2) := cellsE HW.out.p2 2
  have l3 : w5.cell? ⟨w3.heap.size, 3, none⟩ = some (.int .i64 d2) := cellsE HW.out.p2 3
  have B5 := Below.drew HW.out.b
  go_region_held3 (fun w' => w'.cell? ⟨w1.heap.size, 3, none⟩ = some (.func (.func 40) #[] #[]) ∧ w'.cell? ⟨w2.heap.size, 0, none⟩ = some (.int .i64 n1) ∧ w'.cell? ⟨w2.heap.size, 1, none⟩ = some (.int .i64 y1) ∧ w'.cell? ⟨w2.heap.size, 2, none⟩ = some (.int .i64 m1) ∧ w'.cell? ⟨w2.heap.size, 3, none⟩ = some (.int .i64 d1) ∧ w'.cell? ⟨w3.heap.size, 0, none⟩ = some (.int .i64 n2) ∧ w'.cell? ⟨w3.heap.size, 1, none⟩ = some (.int .i64 y2) ∧ w'.cell? ⟨w3.heap.size, 2, none⟩ = some (.int .i64 m2) ∧ w'.cell? ⟨w3.heap.size, 3, none⟩ = some (.int .i64 d2))
    (((try go_split_ands); (and_intros) <;> first | assumption | (refine (b6.cell ?_).trans ?_; exact (World.block_lt_of_cell? _ _ (by assumption)); assumption) | (go_keep; done)))
    (first
      | (go_split_ands; go_at_call 40; refine (J.out _).mono ?_; rintro e w6 ⟨rfl, b6⟩; have B6 := btE B5 b6))
  go_wp2
  go_ret2
  exact ⟨rfl, B6⟩
set_option maxRecDepth 100000 in
set_option maxHeartbeats 3200000 in
theorem days_3_1 (n1 y1 m1 d1 n2 y2 m2 d2 v u : Int) (hlt : n2 < n1) (hu : IntKind.i64.wrap (-v) = u) (w : World) (hv : VarD w)
    (H1 : ∀ W, VarD W → Calls Tryz.prog 22 #[.int .i64 n1] W (PlcR n1 y1 m1 d1 0 W))
    (H2 : ∀ W, VarD W → Calls Tryz.prog 22 #[.int .i64 n2] W (PlcR n2 y2 m2 d2 0 W))
    (H : ∀ W, Calls Tryz.prog 40 #[.agg #[.int .i64 n2, .int .i64 y2, .int .i64 m2, .int .i64 d2], .agg #[.int .i64 n1, .int .i64 y1, .int .i64 m1, .int .i64 d1]] W (IntE v W)) :
    Calls Tryz.prog 10 #[.int .u8 3, .int .i64 n1, .int .i64 n2] w (DysR u 0 w) := by
  have HV := Lib.hid hv
  have J1 := Lib.hid H1
  have J2 := Lib.hid H2
  have J := Lib.hid H
  have HC := Lib.hid counts_any
  clear hv H1 H2 H
  go_enter Tryz.func10, Tryz.ntmps10
  go_wp2_with (first
    | (go_at_call 21; ((with_reducible refine (HC.out _).mono ?_); rintro e w1 ⟨q1, q2, rfl, b, c1, c2⟩; have B1 := Lib.hid b; have C1 := Lib.hid c1; have C2 := Lib.hid c2; clear b c1 c2))
    | (go_at_call 22; ((with_reducible refine (J1.out _ (HV.out.below (btE B1.out (belE w1 (.cells #[.func (.func 40) #[] #[], .func (.func 40) #[] #[], .func (.func 63) #[] #[.pointer (some ⟨q1, 0, none⟩)], .func (.func 40) #[] #[], .func (.func 63) #[] #[.pointer (some ⟨q2, 0, none⟩)]] 43))))).mono ?_); rintro e w2 ⟨rfl, b⟩; have B2 := Lib.hid b; have B2' := Lib.hid (btE (btE B1.out (belE w1 _)) b); clear b))
    | (go_at_call 22; ((with_reducible refine (J2.out _ (HV.out.below (btE B2'.out (belE w2 (.cells #[.int .i64 n1, .int .i64 y1, .int .i64 m1, .int .i64 d1] 46))))).mono ?_); rintro e w3 ⟨rfl, b⟩; have B3 := Lib.hid b; have HO := Lib.hid (fun te => corE_new 0 0 (w3.alloc (.cells #[.int .i64 n2, .int .i64 y2, .int .i64 m2, .int .i64 d2] 46)) te); rw [if_pos rfl, World.size_alloc] at HO; clear b))
    | (go_at_call 23; ((with_reducible refine (HO.out _).mono ?_); rintro e w4 ⟨rfl, rfl⟩)))
  have HW := Lib.hid (dayW_of (n2 := n2) (y2 := y2) (m2 := m2) (d2 := d2) (es := #[.int .i64 0, .int .i64 0]) (te := 23) B1.out C1.out C2.out B2.out B3.out)
  generalize ((w3.alloc (.cells #[.int .i64 n2, .int .i64 y2, .int .i64 m2, .int .i64 d2] 46)).alloc (.cells #[.int .i64 0, .int .i64 0] 23)) = w5 at *
  have kf : w5.cell? ⟨w1.heap.size, 3, none⟩ = some (.func (.func 40) #[] #[]) := cellsE HW.out.fs 3
  have g0 : w5.cell? ⟨w2.heap.size, 0, none⟩ = some (.int .i64 n1) := cellsE HW.out.p1 0
  have g1 : w5.cell? ⟨w2.heap.size, 1, none⟩ = some (.int .i64 y1) := cellsE HW.out.p1 1
  have g2 : w5.cell? ⟨w2.heap.size, 2, none⟩ = some (.int .i64 m1) := cellsE HW.out.p1 2
  have g3 : w5.cell? ⟨w2.heap.size, 3, none⟩ = some (.int .i64 d1) := cellsE HW.out.p1 3
  have l0 : w5.cell? ⟨w3.heap.size, 0, none⟩ = some (.int .i64 n2) := cellsE HW.out.p2 0
  have l1 : w5.cell? ⟨w3.heap.size, 1, none⟩ = some (.int .i64 y2) := cellsE HW.out.p2 1
  have l2 : w5.cell? ⟨w3.heap.size, 2, none⟩ = some (.int .i64 m2) := cellsE HW.out.p2 2
  have l3 : w5.cell? ⟨w3.heap.size, 3, none⟩ = some (.int .i64 d2) := cellsE HW.out.p2 3
  have B5 := Below.drew HW.out.b
  go_region_held3 (fun w' => w'.cell? ⟨w1.heap.size, 3, none⟩ = some (.func (.func 40) #[] #[]) ∧ w'.cell? ⟨w2.heap.size, 0, none⟩ = some (.int .i64 n1) ∧ w'.cell? ⟨w2.heap.size, 1, none⟩ = some (.int .i64 y1) ∧ w'.cell? ⟨w2.heap.size, 2, none⟩ = some (.int .i64 m1) ∧ w'.cell? ⟨w2.heap.size, 3, none⟩ = some (.int .i64 d1) ∧ w'.cell? ⟨w3.heap.size, 0, none⟩ = some (.int .i64 n2) ∧ w'.cell? ⟨w3.heap.size, 1, none⟩ = some (.int .i64 y2) ∧ w'.cell? ⟨w3.heap.size, 2, none⟩ = some (.int .i64 m2) ∧ w'.cell? ⟨w3.heap.size, 3, none⟩ = some (.int .i64 d2))
    (((try go_split_ands); (and_intros) <;> first | assumption | (refine (b6.cell ?_).trans ?_; exact (World.block_lt_of_cell? _ _ (by assumption)); assumption) | (go_keep; done)))
    (first
      | (go_split_ands; go_at_call 40; refine (J.out _).mono ?_; rintro e w6 ⟨rfl, b6⟩; have B6 := btE B5 b6))
  go_wp2
  go_ret2
  exact ⟨rfl, B6⟩
set_option maxRecDepth 100000 in
set_option maxHeartbeats 3200000 in
theorem days_4_0 (n1 y1 m1 d1 n2 y2 m2 d2 v : Int) (hlt : n1 ≤ n2) (w : World) (hv : VarD w)
    (H1 : ∀ W, VarD W → Calls Tryz.prog 22 #[.int .i64 n1] W (PlcR n1 y1 m1 d1 0 W))
    (H2 : ∀ W, VarD W → Calls Tryz.prog 22 #[.int .i64 n2] W (PlcR n2 y2 m2 d2 0 W))
    (H : ∀ q W, W.cell? ⟨q, 0, none⟩ = some (.func (.func 43) #[] #[]) → Calls Tryz.prog 63 #[.agg #[.int .i64 n1, .int .i64 y1, .int .i64 m1, .int .i64 d1], .agg #[.int .i64 n2, .int .i64 y2, .int .i64 m2, .int .i64 d2], .pointer (some ⟨q, 0, none⟩)] W (IntE v W)) :
    Calls Tryz.prog 10 #[.int .u8 4, .int .i64 n1, .int .i64 n2] w (DysR v 0 w) := by
  have HV := Lib.hid hv
  have J1 := Lib.hid H1
  have J2 := Lib.hid H2
  have J := Lib.hid H
  have HC := Lib.hid counts_any
  clear hv H1 H2 H
  go_enter Tryz.func10, Tryz.ntmps10
  go_wp2_with (first
    | (go_at_call 21; ((with_reducible refine (HC.out _).mono ?_); rintro e w1 ⟨q1, q2, rfl, b, c1, c2⟩; have B1 := Lib.hid b; have C1 := Lib.hid c1; have C2 := Lib.hid c2; clear b c1 c2))
    | (go_at_call 22; ((with_reducible refine (J1.out _ (HV.out.below (btE B1.out (belE w1 (.cells #[.func (.func 40) #[] #[], .func (.func 40) #[] #[], .func (.func 63) #[] #[.pointer (some ⟨q1, 0, none⟩)], .func (.func 40) #[] #[], .func (.func 63) #[] #[.pointer (some ⟨q2, 0, none⟩)]] 43))))).mono ?_); rintro e w2 ⟨rfl, b⟩; have B2 := Lib.hid b; have B2' := Lib.hid (btE (btE B1.out (belE w1 _)) b); clear b))
    | (go_at_call 22; ((with_reducible refine (J2.out _ (HV.out.below (btE B2'.out (belE w2 (.cells #[.int .i64 n1, .int .i64 y1, .int .i64 m1, .int .i64 d1] 46))))).mono ?_); rintro e w3 ⟨rfl, b⟩; have B3 := Lib.hid b; have HO := Lib.hid (fun te => corE_new 0 0 (w3.alloc (.cells #[.int .i64 n2, .int .i64 y2, .int .i64 m2, .int .i64 d2] 46)) te); rw [if_pos rfl, World.size_alloc] at HO; clear b))
    | (go_at_call 23; ((with_reducible refine (HO.out _).mono ?_); rintro e w4 ⟨rfl, rfl⟩)))
  have HW := Lib.hid (dayW_of (n2 := n2) (y2 := y2) (m2 := m2) (d2 := d2) (es := #[.int .i64 0, .int .i64 0]) (te := 23) B1.out C1.out C2.out B2.out B3.out)
  generalize ((w3.alloc (.cells #[.int .i64 n2, .int .i64 y2, .int .i64 m2, .int .i64 d2] 46)).alloc (.cells #[.int .i64 0, .int .i64 0] 23)) = w5 at *
  have kf : w5.cell? ⟨w1.heap.size, 4, none⟩ = some (.func (.func 63) #[] #[.pointer (some ⟨q2, 0, none⟩)]) := cellsE HW.out.fs 4
  have g0 : w5.cell? ⟨w2.heap.size, 0, none⟩ = some (.int .i64 n1) := cellsE HW.out.p1 0
  have g1 : w5.cell? ⟨w2.heap.size, 1, none⟩ = some (.int .i64 y1) := cellsE HW.out.p1 1
  have g2 : w5.cell? ⟨w2.heap.size, 2, none⟩ = some (.int .i64 m1) := cellsE HW.out.p1 2
  have g3 : w5.cell? ⟨w2.heap.size, 3, none⟩ = some (.int .i64 d1) := cellsE HW.out.p1 3
  have l0 : w5.cell? ⟨w3.heap.size, 0, none⟩ = some (.int .i64 n2) := cellsE HW.out.p2 0
  have l1 : w5.cell? ⟨w3.heap.size, 1, none⟩ = some (.int .i64 y2) := cellsE HW.out.p2 1
  have l2 : w5.cell? ⟨w3.heap.size, 2, none⟩ = some (.int .i64 m2) := cellsE HW.out.p2 2
  have l3 : w5.cell? ⟨w3.heap.size, 3, none⟩ = some (.int .i64 d2) := cellsE HW.out.p2 3
  have kc := HW.out.c2
  have B5 := Below.drew HW.out.b
  go_region_held3 (fun w' => w'.cell? ⟨w1.heap.size, 4, none⟩ = some (.func (.func 63) #[] #[.pointer (some ⟨q2, 0, none⟩)]) ∧ w'.cell? ⟨w2.heap.size, 0, none⟩ = some (.int .i64 n1) ∧ w'.cell? ⟨w2.heap.size, 1, none⟩ = some (.int .i64 y1) ∧ w'.cell? ⟨w2.heap.size, 2, none⟩ = some (.int .i64 m1) ∧ w'.cell? ⟨w2.heap.size, 3, none⟩ = some (.int .i64 d1) ∧ w'.cell? ⟨w3.heap.size, 0, none⟩ = some (.int .i64 n2) ∧ w'.cell? ⟨w3.heap.size, 1, none⟩ = some (.int .i64 y2) ∧ w'.cell? ⟨w3.heap.size, 2, none⟩ = some (.int .i64 m2) ∧ w'.cell? ⟨w3.heap.size, 3, none⟩ = some (.int .i64 d2) ∧ w'.cell? ⟨q2, 0, none⟩ = some (.func (.func 43) #[] #[]))
    (((try go_split_ands); (and_intros) <;> first | assumption | (refine (b6.cell ?_).trans ?_; exact (World.block_lt_of_cell? _ _ (by assumption)); assumption) | (go_keep; done)))
    (first
      | (go_split_ands; go_at_call 63; refine (J.out _ _ (by assumption)).mono ?_; rintro e w6 ⟨rfl, b6⟩; have B6 := btE B5 b6))
  go_wp2
  go_ret2
  exact ⟨rfl, B6⟩
set_option maxRecDepth 100000 in
set_option maxHeartbeats 3200000 in
theorem days_4_1 (n1 y1 m1 d1 n2 y2 m2 d2 v u : Int) (hlt : n2 < n1) (hu : IntKind.i64.wrap (-v) = u) (w : World) (hv : VarD w)
    (H1 : ∀ W, VarD W → Calls Tryz.prog 22 #[.int .i64 n1] W (PlcR n1 y1 m1 d1 0 W))
    (H2 : ∀ W, VarD W → Calls Tryz.prog 22 #[.int .i64 n2] W (PlcR n2 y2 m2 d2 0 W))
    (H : ∀ q W, W.cell? ⟨q, 0, none⟩ = some (.func (.func 43) #[] #[]) → Calls Tryz.prog 63 #[.agg #[.int .i64 n2, .int .i64 y2, .int .i64 m2, .int .i64 d2], .agg #[.int .i64 n1, .int .i64 y1, .int .i64 m1, .int .i64 d1], .pointer (some ⟨q, 0, none⟩)] W (IntE v W)) :
    Calls Tryz.prog 10 #[.int .u8 4, .int .i64 n1, .int .i64 n2] w (DysR u 0 w) := by
  have HV := Lib.hid hv
  have J1 := Lib.hid H1
  have J2 := Lib.hid H2
  have J := Lib.hid H
  have HC := Lib.hid counts_any
  clear hv H1 H2 H
  go_enter Tryz.func10, Tryz.ntmps10
  go_wp2_with (first
    | (go_at_call 21; ((with_reducible refine (HC.out _).mono ?_); rintro e w1 ⟨q1, q2, rfl, b, c1, c2⟩; have B1 := Lib.hid b; have C1 := Lib.hid c1; have C2 := Lib.hid c2; clear b c1 c2))
    | (go_at_call 22; ((with_reducible refine (J1.out _ (HV.out.below (btE B1.out (belE w1 (.cells #[.func (.func 40) #[] #[], .func (.func 40) #[] #[], .func (.func 63) #[] #[.pointer (some ⟨q1, 0, none⟩)], .func (.func 40) #[] #[], .func (.func 63) #[] #[.pointer (some ⟨q2, 0, none⟩)]] 43))))).mono ?_); rintro e w2 ⟨rfl, b⟩; have B2 := Lib.hid b; have B2' := Lib.hid (btE (btE B1.out (belE w1 _)) b); clear b))
    | (go_at_call 22; ((with_reducible refine (J2.out _ (HV.out.below (btE B2'.out (belE w2 (.cells #[.int .i64 n1, .int .i64 y1, .int .i64 m1, .int .i64 d1] 46))))).mono ?_); rintro e w3 ⟨rfl, b⟩; have B3 := Lib.hid b; have HO := Lib.hid (fun te => corE_new 0 0 (w3.alloc (.cells #[.int .i64 n2, .int .i64 y2, .int .i64 m2, .int .i64 d2] 46)) te); rw [if_pos rfl, World.size_alloc] at HO; clear b))
    | (go_at_call 23; ((with_reducible refine (HO.out _).mono ?_); rintro e w4 ⟨rfl, rfl⟩)))
  have HW := Lib.hid (dayW_of (n2 := n2) (y2 := y2) (m2 := m2) (d2 := d2) (es := #[.int .i64 0, .int .i64 0]) (te := 23) B1.out C1.out C2.out B2.out B3.out)
  generalize ((w3.alloc (.cells #[.int .i64 n2, .int .i64 y2, .int .i64 m2, .int .i64 d2] 46)).alloc (.cells #[.int .i64 0, .int .i64 0] 23)) = w5 at *
  have kf : w5.cell? ⟨w1.heap.size, 4, none⟩ = some (.func (.func 63) #[] #[.pointer (some ⟨q2, 0, none⟩)]) := cellsE HW.out.fs 4
  have g0 : w5.cell? ⟨w2.heap.size, 0, none⟩ = some (.int .i64 n1) := cellsE HW.out.p1 0
  have g1 : w5.cell? ⟨w2.heap.size, 1, none⟩ = some (.int .i64 y1) := cellsE HW.out.p1 1
  have g2 : w5.cell? ⟨w2.heap.size, 2, none⟩ = some (.int .i64 m1) := cellsE HW.out.p1 2
  have g3 : w5.cell? ⟨w2.heap.size, 3, none⟩ = some (.int .i64 d1) := cellsE HW.out.p1 3
  have l0 : w5.cell? ⟨w3.heap.size, 0, none⟩ = some (.int .i64 n2) := cellsE HW.out.p2 0
  have l1 : w5.cell? ⟨w3.heap.size, 1, none⟩ = some (.int .i64 y2) := cellsE HW.out.p2 1
  have l2 : w5.cell? ⟨w3.heap.size, 2, none⟩ = some (.int .i64 m2) := cellsE HW.out.p2 2
  have l3 : w5.cell? ⟨w3.heap.size, 3, none⟩ = some (.int .i64 d2) := cellsE HW.out.p2 3
  have kc := HW.out.c2
  have B5 := Below.drew HW.out.b
  go_region_held3 (fun w' => w'.cell? ⟨w1.heap.size, 4, none⟩ = some (.func (.func 63) #[] #[.pointer (some ⟨q2, 0, none⟩)]) ∧ w'.cell? ⟨w2.heap.size, 0, none⟩ = some (.int .i64 n1) ∧ w'.cell? ⟨w2.heap.size, 1, none⟩ = some (.int .i64 y1) ∧ w'.cell? ⟨w2.heap.size, 2, none⟩ = some (.int .i64 m1) ∧ w'.cell? ⟨w2.heap.size, 3, none⟩ = some (.int .i64 d1) ∧ w'.cell? ⟨w3.heap.size, 0, none⟩ = some (.int .i64 n2) ∧ w'.cell? ⟨w3.heap.size, 1, none⟩ = some (.int .i64 y2) ∧ w'.cell? ⟨w3.heap.size, 2, none⟩ = some (.int .i64 m2) ∧ w'.cell? ⟨w3.heap.size, 3, none⟩ = some (.int .i64 d2) ∧ w'.cell? ⟨q2, 0, none⟩ = some (.func (.func 43) #[] #[]))
    (((try go_split_ands); (and_intros) <;> first | assumption | (refine (b6.cell ?_).trans ?_; exact (World.block_lt_of_cell? _ _ (by assumption)); assumption) | (go_keep; done)))
    (first
      | (go_split_ands; go_at_call 63; refine (J.out _ _ (by assumption)).mono ?_; rintro e w6 ⟨rfl, b6⟩; have B6 := btE B5 b6))
  go_wp2
  go_ret2
  exact ⟨rfl, B6⟩
end Go.Proofs.YtpgfadkkfofhcaaGreatDoor

/- Joined: MoF, MoG, MoH. -/
import Derived.Test.YtalnfbgaiegicaaMoZ
import Derived.Test.YtalnfbgaiegicaaMoR
import Derived.Test.YtalnfbgaiegicaaMoE
import Derived.BigRegion
import Derived.Deep.QuietTactic
/- Layer 7: the program's walks: a total shared by weights: the closure, what a sort leaves alone, the first loop. -/
namespace Go.Proofs.Ytalnfbgaiegicaa
open Go Go.RowKit

section
variable {α : Type} [Inhabited α]
/-- What a sort leaves alone. -/
theorem sw_block {enc : α → Value} {W w' : World} {blk off : Nat} {d : Array α} (h : SW enc W blk off d w') : ∀ k, k < W.heap.size → k ≠ blk → w'.heap[k]? = W.heap[k]? := by
  obtain ⟨m, os, rfl⟩ := h
  intro k hk hne
  unfold sortWorld
  rw [Sort.heap_grow_old _ _ (by rw [Sort.size_putRow]; exact hk)]
  unfold Sort.putRow Sort.mapBlock
  simp only [Array.getElem?_modify]
  rw [if_neg (fun e => hne e.symm)]
  rfl
theorem sw_below {enc : α → Value} {W w' : World} {blk off B : Nat} {d : Array α} (h : SW enc W blk off d w') (hB : B ≤ blk) (hs : B ≤ W.heap.size) : Below B W w' := by
  have hb := sw_block h
  have hl := h.le
  obtain ⟨m, os, rfl⟩ := h
  exact ⟨rfl, rfl, rfl, hl, fun k hk => hb k (by omega) (by omega)⟩
theorem sw_cell {enc : α → Value} {W w' : World} {blk off : Nat} {d : Array α} (h : SW enc W blk off d w') {r k : Nat} {v : Value} (hne : r ≠ blk) (hc : W.cell? ⟨r, k, none⟩ = some v) : w'.cell? ⟨r, k, none⟩ = some v := by
  have := sw_block h r (World.block_lt_of_cell? W _ hc) hne
  rw [← hc]
  simp only [World.cell?, this]
theorem sw_own {enc : α → Value} {W w' : World} {blk off base : Nat} {d : Array α} (h : SW enc W blk off d w') {e : TypeId} {size g cap n : Nat} {xs : List Value} (hne : g ≠ blk) (ho : W.ownsRow base e size (.slice (some ⟨g, 0, none⟩) n cap) n xs) : w'.ownsRow base e size (.slice (some ⟨g, 0, none⟩) n cap) n xs := by
  refine ⟨ho.1, ?_⟩
  rcases ho.2 with ⟨h0, -⟩ | ⟨g', cap', cur, hv, hg, hh, r⟩
  · cases h0
  · injection hv with e1 e2 e3
    injection e1 with e1
    injection e1 with e1
    subst e1
    exact .inr ⟨g, cap', cur, by rw [e3], hg, (sw_block h g (lt_of_block hh) hne).trans hh, r⟩
end
/-- Two numbers compared. -/
def cmI (x y : Int) : Int := Lib.compareInt x y
theorem cmI_lt (x y : Int) : cmI x y < 0 ↔ x < y := by
  unfold cmI Lib.compareInt
  by_cases h1 : x < y
  · simp [h1]
  · by_cases h2 : y < x <;> simp [h1, h2]
set_option maxRecDepth 100000 in
set_option maxHeartbeats 1600000 in
theorem clos_any (n b c : Nat) (re : Nat → Int) (i j : Nat) (hi : i < n) (hj : j < n) (w : World) (hbox : w.cell? ⟨c, 0, none⟩ = some (.slice (some ⟨b, 0, none⟩) n n)) (hr : ∀ k, k < n → w.cell? ⟨b, k, none⟩ = some (.int .i64 (re k))) :
    Calls Try.prog 14 #[.int .i64 i, .int .i64 j, .pointer (some ⟨c, 0, none⟩)] w fun e w' => e = .returned (.int .i64 (cmI (re j) (re i))) ∧ ∃ q, w' = w.drewN q := by
  have c1 := hr i hi
  have c2 := hr j hj
  have hi1 : (i : Int) < (n : Int) := by omega
  have hj1 : (j : Int) < (n : Int) := by omega
  have HC := Lib.hid (fun W => Try.cmp_Compare_int (re j) (re i) W)
  have HR : Hid (cmI (re j) (re i) = Lib.compareInt (re j) (re i)) := rfl
  clear hr
  generalize re i = x at *
  generalize re j = y at *
  generalize cmI y x = z at *
  have hz := HR.out
  rw [← hz] at HC
  clear hz HR
  go_enter Try.func14, Try.ntmps14
  go_wp2_with fail
  go_quiet ((go_at_call 15; exact Calls.quiet_of_same (HC.out _)))
  go_wp2
  go_ret
  exact ⟨rfl, _, rfl⟩
end Go.Proofs.Ytalnfbgaiegicaa
/- Layer 7: the program's walks: a total shared by weights. -/
namespace Go.Proofs.Ytalnfbgaiegicaa
open Go Go.RowKit

theorem own_block {w w' : World} {base : Nat} {e : TypeId} {size g cap n : Nat} {xs : List Value} (ho : w.ownsRow base e size (.slice (some ⟨g, 0, none⟩) n cap) n xs) (hg : w'.heap[g]? = w.heap[g]?) : w'.ownsRow base e size (.slice (some ⟨g, 0, none⟩) n cap) n xs := by
  refine ⟨ho.1, ?_⟩
  rcases ho.2 with ⟨h0, -⟩ | ⟨g', cap', cur, hv, hb, hh, r⟩
  · cases h0
  · injection hv with e1 e2 e3
    injection e1 with e1
    injection e1 with e1
    subst e1
    exact .inr ⟨g, cap', cur, by rw [e3], hb, hg.trans hh, r⟩
theorem heap_set_other (w : World) (b o : Nat) (v : Value) {g : Nat} (h : g ≠ b) : (w.setCell ⟨b, o, none⟩ v).heap[g]? = w.heap[g]? := by
  rw [Sort.setCell_eq]
  unfold Sort.mapBlock
  simp only [Array.getElem?_modify]
  rw [if_neg (fun e => h e.symm)]
theorem heap_set_size (w : World) (b o : Nat) (v : Value) : (w.setCell ⟨b, o, none⟩ v).heap.size = w.heap.size := by
  rw [Sort.setCell_eq]
  unfold Sort.mapBlock
  simp
theorem own_ltM {w : World} {base : Nat} {e : TypeId} {size g cap n : Nat} {xs : List Value} (ho : w.ownsRow base e size (.slice (some ⟨g, 0, none⟩) n cap) n xs) : base ≤ g ∧ g < w.heap.size := by
  rcases ho.2 with ⟨h0, -⟩ | ⟨g', cap', cur, hv, hb, hh, r⟩
  · cases h0
  · injection hv with e1 e2 e3
    injection e1 with e1
    injection e1 with e1
    subst e1
    exact ⟨hb, lt_of_block hh⟩
theorem own_rebase {w : World} {base base' : Nat} {e : TypeId} {size g cap n : Nat} {xs : List Value} (ho : w.ownsRow base e size (.slice (some ⟨g, 0, none⟩) n cap) n xs) (hb : base' ≤ base) : w.ownsRow base' e size (.slice (some ⟨g, 0, none⟩) n cap) n xs := by
  refine ⟨ho.1, ?_⟩
  rcases ho.2 with ⟨h0, -⟩ | ⟨g', cap', cur, hv, hg, hh, r⟩
  · cases h0
  · exact .inr ⟨g', cap', cur, hv, Nat.le_trans hb hg, hh, r⟩
/-- The first k of n numbers, zeros behind them. -/
def lstM (f : Nat → Int) (n k : Nat) : List Int := (List.range n).map fun j => if j < k then f j else 0
theorem lstM_len (f : Nat → Int) (n k : Nat) : (lstM f n k).length = n := by unfold lstM; simp
theorem lstM_get (f : Nat → Int) {n k j : Nat} (h : j < n) : (lstM f n k).getD j 0 = if j < k then f j else 0 := by
  unfold lstM; rw [List.getD_eq_getElem?_getD, List.getElem?_map, List.getElem?_range h]; rfl
theorem lstM_zero (f : Nat → Int) (n : Nat) : lstM f n 0 = List.replicate n 0 := by
  refine ext_toM (by rw [lstM_len, List.length_replicate]) fun j h => ?_
  rw [lstM_len] at h
  rw [lstM_get f h, if_neg (by omega), List.getD_eq_getElem?_getD, List.getElem?_replicate, if_pos h]; rfl
theorem lstM_set (f : Nat → Int) {n k : Nat} (hk : k < n) : (lstM f n k).set k (f k) = lstM f n (k + 1) := by
  refine ext_toM (by rw [List.length_set, lstM_len, lstM_len]) fun j h => ?_
  rw [List.length_set, lstM_len] at h
  rw [lstM_get f h, List.getD_eq_getElem?_getD, List.getElem?_set]
  by_cases e : k = j
  · subst e; rw [if_pos rfl, if_pos (by rw [lstM_len]; exact hk), if_pos (by omega)]; rfl
  · rw [if_neg e, ← List.getD_eq_getElem?_getD, lstM_get f h]
    by_cases g : j < k
    · rw [if_pos g, if_pos (by omega)]
    · rw [if_neg g, if_neg (by omega)]
/-- The three rows of shares, and the variable that the closure reads. -/
structure ShW (n : Nat) (w : World) (b0 b1 b2 b3 : Nat) (x y z : List Int) (wr : World) : Prop where
  l : wr.ownsRow w.heap.size 3 1 (.slice (some ⟨b0, 0, none⟩) n n) n (x.map encM)
  r : wr.ownsRow w.heap.size 3 1 (.slice (some ⟨b1, 0, none⟩) n n) n (y.map encM)
  o : wr.ownsRow w.heap.size 3 1 (.slice (some ⟨b3, 0, none⟩) n n) n (z.map encM)
  c : wr.cell? ⟨b2, 0, none⟩ = some (.slice (some ⟨b1, 0, none⟩) n n)
  ne : b0 < b1 ∧ b1 < b2 ∧ b2 < b3
  bel : Below w.heap.size w wr
theorem ShW.make {n : Nat} {w w1 w2 w3 : World} (_hn : 1 ≤ n)
    (o1 : w1.ownsRow w.heap.size 3 1 (.slice (some ⟨w.heap.size, 0, none⟩) n n) n (madeCells (Value.int .i64 0).cells (n * 1)).toList) (g1 : w.grownBy w1 none)
    (o2 : w2.ownsRow w1.heap.size 3 1 (.slice (some ⟨w1.heap.size, 0, none⟩) n n) n (madeCells (Value.int .i64 0).cells (n * 1)).toList) (g2 : w1.grownBy w2 none)
    (o3 : w3.ownsRow (w2.alloc (.cells #[.slice (some ⟨w1.heap.size, 0, none⟩) n n] 22)).heap.size 3 1 (.slice (some ⟨(w2.alloc (.cells #[.slice (some ⟨w1.heap.size, 0, none⟩) n n] 22)).heap.size, 0, none⟩) n n) n (madeCells (Value.int .i64 0).cells (n * 1)).toList)
    (g3 : (w2.alloc (.cells #[.slice (some ⟨w1.heap.size, 0, none⟩) n n] 22)).grownBy w3 none) (f1 f2 f3 : Nat → Int) :
    ShW n w w.heap.size w1.heap.size w2.heap.size (w2.alloc (.cells #[.slice (some ⟨w1.heap.size, 0, none⟩) n n] 22)).heap.size (lstM f1 n 0) (lstM f2 n 0) (lstM f3 n 0) w3 := by
  have B1 : Below w.heap.size w w1 := (Below.refl _ _).grown g1 (Nat.le_refl _) (fun k hk => by cases hk)
  have B2 : Below w1.heap.size w1 w2 := (Below.refl _ _).grown g2 (Nat.le_refl _) (fun k hk => by cases hk)
  have B3 := belM w2 (.cells #[.slice (some ⟨w1.heap.size, 0, none⟩) n n] 22)
  have B4 : Below (w2.alloc (.cells #[.slice (some ⟨w1.heap.size, 0, none⟩) n n] 22)).heap.size (w2.alloc (.cells #[.slice (some ⟨w1.heap.size, 0, none⟩) n n] 22)) w3 := (Below.refl _ _).grown g3 (Nat.le_refl _) (fun k hk => by cases hk)
  have l1 := own_ltM o1
  have l2 := own_ltM o2
  rw [zerosM] at o1 o2 o3
  rw [lstM_zero, lstM_zero, lstM_zero]
  have B34 := btM B3 B4
  have hs := B1.size
  have hs2 := B2.size
  refine ⟨own_belM (own_belM o1 B2) B34, own_rebase (own_belM o2 B34) hs, own_rebase o3 (by have := B3.size; omega), cellM B4 (box_cellM w2 _ _ 0 rfl), ⟨l1.2, l2.2, by simp⟩, btM B1 (btM B2 B34)⟩
theorem ShW.drewN {n : Nat} {w : World} {b0 b1 b2 b3 : Nat} {x y z : List Int} {wr : World} (h : ShW n w b0 b1 b2 b3 x y z wr) (q : Nat) : ShW n w b0 b1 b2 b3 x y z (wr.drewN q) := ⟨h.l, h.r, h.o, h.c, h.ne, dnM h.bel q⟩
theorem ShW.step3 {n : Nat} {w : World} {b0 b1 b2 b3 : Nat} {x y z : List Int} {wr : World} (h : ShW n w b0 b1 b2 b3 x y z wr) (k : Nat) (a b c : Int) :
    ShW n w b0 b1 b2 b3 (x.set k a) (y.set k b) (z.set k c) (((wr.setCell ⟨b0, k, none⟩ (.int .i64 a)).setCell ⟨b1, k, none⟩ (.int .i64 b)).setCell ⟨b3, k, none⟩ (.int .i64 c)) := by
  have hne := h.ne
  have hb0 := own_ltM h.l
  have hb1 := own_ltM h.r
  have hb3 := own_ltM h.o
  refine ⟨?_, ?_, ?_, ?_, h.ne, ?_⟩
  · exact own_block (own_block (own_setM h.l k a) (heap_set_other _ _ _ _ (by omega))) (heap_set_other _ _ _ _ (by omega))
  · exact own_block (own_setM (own_block h.r (heap_set_other _ _ _ _ (by omega))) k b) (heap_set_other _ _ _ _ (by omega))
  · exact own_setM (own_block (own_block h.o (heap_set_other _ _ _ _ (by omega))) (heap_set_other _ _ _ _ (by omega))) k c
  · rw [World.cell?_setCell_other _ _ _ _ (by intro e; simp only [Addr.mk.injEq] at e; omega), World.cell?_setCell_other _ _ _ _ (by intro e; simp only [Addr.mk.injEq] at e; omega), World.cell?_setCell_other _ _ _ _ (by intro e; simp only [Addr.mk.injEq] at e; omega)]
    exact h.c
  · exact ((h.bel.setCell (p := ⟨b0, k, none⟩) hb0.1 _).setCell (p := ⟨b1, k, none⟩) hb1.1 _).setCell (p := ⟨b3, k, none⟩) hb3.1 _
theorem ShW.set1 {n : Nat} {w : World} {b0 b1 b2 b3 : Nat} {x y z : List Int} {wr : World} (h : ShW n w b0 b1 b2 b3 x y z wr) (k : Nat) (a : Int) :
    ShW n w b0 b1 b2 b3 (x.set k a) y z (wr.setCell ⟨b0, k, none⟩ (.int .i64 a)) := by
  have hne := h.ne
  have hb0 := own_ltM h.l
  refine ⟨own_setM h.l k a, own_block h.r (heap_set_other _ _ _ _ (by omega)), own_block h.o (heap_set_other _ _ _ _ (by omega)), ?_, h.ne, h.bel.setCell (p := ⟨b0, k, none⟩) hb0.1 _⟩
  rw [World.cell?_setCell_other _ _ _ _ (by intro e; simp only [Addr.mk.injEq] at e; omega)]
  exact h.c
end Go.Proofs.Ytalnfbgaiegicaa
/- Layer 7: the program's walks: the order of the remainders. -/
namespace Go.Proofs.Ytalnfbgaiegicaa
open Go Go.RowKit

/-- The first one gets a unit ahead of the second. -/
def btR (re : Nat → Int) (i j : Nat) : Prop := re j < re i ∨ re j = re i ∧ i < j
def encF {n : Nat} (i : Fin (n + 1)) : Value := .int .i64 (i.val : Int)
def cfF {n : Nat} (re : Nat → Int) (i j : Fin (n + 1)) : Int := cmI (re j.val) (re i.val)
theorem ordS_re {n : Nat} (re : Nat → Int) : OrdS (α := Fin (n + 1)) (fun i j => btR re i.val j.val) (ltOf (cfF re)) (fun i => i.val) := by
  refine ⟨fun x y z h1 h2 => ?_, fun x y h1 h2 => ?_, fun x y h1 h2 => ?_⟩
  · unfold btR at *; omega
  · have h3 : cmI (re y.val) (re x.val) < 0 := of_decide_eq_true h2
    rw [cmI_lt] at h3
    exact .inl h3
  · have h3 : ¬ cmI (re y.val) (re x.val) < 0 := of_decide_eq_false h2
    rw [cmI_lt] at h3
    unfold btR; omega
def idF (n : Nat) : Array (Fin (n + 1)) := Array.ofFn fun i => i
theorem idF_size (n : Nat) : (idF n).size = n + 1 := by simp [idF]
theorem idF_get (n : Nat) {i : Nat} (h : i < n + 1) : ((idF n)[i]!).val = i := by
  rw [getElem!_pos (idF n) i (by rw [idF_size]; exact h)]
  simp [idF]
/-- What the sort has made. -/
def OrdR (re : Nat → Int) (n b3 : Nat) (W : World) (e : Ending) (w' : World) : Prop :=
  e = .returned (.tuple #[]) ∧ ∃ ord : List Nat, ord.length = n ∧ ord.Pairwise (btR re) ∧ ord.Nodup ∧ (∀ i, i ∈ ord ↔ i < n) ∧ (∀ k, k < n → w'.cell? ⟨b3, k, none⟩ = some (.int .i64 ((ord.getD k 0 : Nat) : Int))) ∧ (∀ k, k < W.heap.size → k ≠ b3 → w'.heap[k]? = W.heap[k]?) ∧ Below b3 W w'
set_option maxHeartbeats 1000000 in
theorem order_any (n : Nat) (n0 : 1 ≤ n) (n1 : n ≤ 100) (re : Nat → Int) (b1 b2 b3 : Nat) (W : World) (hbox : W.cell? ⟨b2, 0, none⟩ = some (.slice (some ⟨b1, 0, none⟩) n n)) (hr : ∀ k, k < n → W.cell? ⟨b1, k, none⟩ = some (.int .i64 (re k)))
    (ho : ∀ k, k < n → W.cell? ⟨b3, k, none⟩ = some (.int .i64 (k : Int)) ∧ W.frozen? ⟨b3, k, none⟩ = false) (h1 : b1 ≠ b3) (h2 : b2 ≠ b3) (h3 : b3 < W.heap.size) :
    Calls Try.prog 13 #[.slice (some ⟨b3, 0, none⟩) n n, .func (.func 14) #[] #[.pointer (some ⟨b2, 0, none⟩)]] W (OrdR re n b3 W) := by
  obtain ⟨m, rfl⟩ : ∃ m, n = m + 1 := ⟨n - 1, by omega⟩
  have hO : OneCell (encF (n := m)) := fun _ => rfl
  have hH : Sort.Holds (encF (n := m)) W b3 0 (idF m) := fun j hj => by
    rw [idF_size] at hj
    rw [Nat.zero_add]
    refine ⟨?_, (ho j hj).2⟩
    rw [(ho j hj).1]
    unfold encF
    rw [idF_get m hj]
  have hcmp : CmpReads Try.prog 14 #[.pointer (some ⟨b2, 0, none⟩)] (encF (n := m)) (cfF re) b3 0 (idF m).size W := by
    intro q os dk hd x y
    have hsw : SW (encF (n := m)) W b3 0 dk (sortWorld (encF (n := m)) W b3 0 q dk os) := ⟨q, os, rfl⟩
    exact clos_any (m + 1) b1 b2 re x.val y.val x.isLt y.isLt _ (sw_cell hsw h2 hbox) (fun k hk => sw_cell hsw h1 (hr k hk))
  have eg : ∀ args w, (callFunc 14 args).run Try.prog w = .ok (.enter 14 args) w := enters_of Try.func14 (by kernel_rfl) rfl
  have R : Row1 (encF (n := m)) W b3 0 (idF m) := ⟨hO, hH, h3⟩
  refine (sortStable_any (encF (n := m)) (cfF re) _ _ (ordS_re re) 14 #[.pointer (some ⟨b2, 0, none⟩)] b3 0 (m + 1) (m + 1) (idF m) W eg hcmp.lays R (idF_size m) (by omega) (fun i hi => idF_get m hi)).mono ?_
  rintro e w' ⟨rfl, d', hd, ⟨hs, -⟩, hsw⟩
  have hHd := hsw.holds h3 hH (by rw [hd, idF_size])
  have hget : ∀ k, k < m + 1 → (d'.toList.map Fin.val).getD k 0 = (d'[k]!).val := fun k hk => by
    rw [List.getD_eq_getElem?_getD, List.getElem?_map, getElem!_pos d' k (by rw [hd]; exact hk), Array.getElem?_toList, Array.getElem?_eq_getElem (by rw [hd]; exact hk)]
    rfl
  have hlen : (d'.toList.map Fin.val).length = m + 1 := by simp [hd]
  have hpair : (d'.toList.map Fin.val).Pairwise (btR re) := by
    rw [List.pairwise_iff_getElem]
    intro i j hi hj hij
    rw [hlen] at hi hj
    have this : btR re (d'[i]!).val (d'[j]!).val := hs i j (Nat.zero_le _) hij hj
    rw [← hget i hi, ← hget j hj, List.getD_eq_getElem?_getD, List.getD_eq_getElem?_getD, List.getElem?_eq_getElem (by rw [hlen]; exact hi), List.getElem?_eq_getElem (by rw [hlen]; exact hj)] at this
    exact this
  have hnod : (d'.toList.map Fin.val).Nodup := hpair.imp fun {a b} h e => by subst e; unfold btR at h; omega
  have hlt : ∀ i ∈ d'.toList.map Fin.val, i < m + 1 := fun i hi => by
    obtain ⟨x, -, rfl⟩ := List.mem_map.1 hi
    exact x.isLt
  refine ⟨rfl, d'.toList.map Fin.val, hlen, hpair, hnod, fun i => ⟨hlt i, fun hi => ?_⟩, fun k hk => ?_, sw_block hsw, sw_below hsw (Nat.le_refl _) (by omega)⟩
  · have hc := cnF_mem (n := m + 1) (d'.toList.map Fin.val) hnod hlt
    rw [hlen] at hc
    by_cases g : i ∈ d'.toList.map Fin.val
    · exact g
    · have := cnF_lt (p := fun i => decide (i ∈ d'.toList.map Fin.val)) (q := fun _ => true) (n := m + 1) (fun _ _ _ => rfl) hi (decide_eq_false g) rfl
      have e2 := cnF_le (fun _ => true) (m + 1)
      omega
  · have := (hHd k (by rw [hd]; exact hk)).1
    rw [Nat.zero_add] at this
    rw [this, hget k hk]
    rfl
end Go.Proofs.Ytalnfbgaiegicaa

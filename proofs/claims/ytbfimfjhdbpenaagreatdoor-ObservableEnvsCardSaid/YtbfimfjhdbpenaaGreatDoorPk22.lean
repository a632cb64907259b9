/- Joined: ObK, ObK1, ObK2, ObK3, ObK4, ObK5, ObL, ObR, ObS, ObT, ObU, OeA, ObV, OeB, OeB1, OeB2, OeB3, OeB4. -/
import Derived.Test.YtbfimfjhdbpenaaGreatDoorPk18
import Derived.Test.YtbfimfjhdbpenaaGreatDoorPk20
import Derived.Test.YtbfimfjhdbpenaaGreatDoorPk21
import Derived.Test.YtbfimfjhdbpenaaGreatDoorPk17
import Derived.Deep.CutRange
/- Layer 8: Sort of the reference. -/
namespace Go.Proofs.YtbfimfjhdbpenaaGreatDoor
open Go Go.RowKit Go.BigFrame
def i64V (x : Int) : Value := .int .i64 x
theorem own_belO {w w' : World} {base : Nat} {e : TypeId} {size : Nat} {v : Value} {n : Nat} {xs : List Value} (h : w.ownsRow base e size v n xs) (b : Below w.heap.size w w') : w'.ownsRow base e size v n xs := by
  refine ⟨h.1, ?_⟩
  rcases h.2 with h0 | ⟨g, cap, cur, hv, hg, hh, r⟩
  · exact .inl h0
  · exact .inr ⟨g, cap, cur, hv, hg, (b.block _ (lt_of_block hh)).trans hh, r⟩
end Go.Proofs.YtbfimfjhdbpenaaGreatDoor
/- Layer 8: Sort of the reference: kinds without parts. -/
namespace Go.Proofs.YtbfimfjhdbpenaaGreatDoor
open Go Go.RowKit Go.BigFrame
end Go.Proofs.YtbfimfjhdbpenaaGreatDoor
/- Layer 8: Sort of the reference: operations. -/
namespace Go.Proofs.YtbfimfjhdbpenaaGreatDoor
open Go Go.RowKit Go.BigFrame
end Go.Proofs.YtbfimfjhdbpenaaGreatDoor
/- Layer 8: Sort of the reference: comparisons. -/
namespace Go.Proofs.YtbfimfjhdbpenaaGreatDoor
open Go Go.RowKit Go.BigFrame
end Go.Proofs.YtbfimfjhdbpenaaGreatDoor
/- Layer 8: Sort of the reference: connectives. -/
namespace Go.Proofs.YtbfimfjhdbpenaaGreatDoor
open Go Go.RowKit Go.BigFrame
end Go.Proofs.YtbfimfjhdbpenaaGreatDoor
/- Layer 8: Sort of the reference. -/
namespace Go.Proofs.YtbfimfjhdbpenaaGreatDoor
open Go Go.RowKit Go.BigFrame
end Go.Proofs.YtbfimfjhdbpenaaGreatDoor
/- Layer 8: Check of the reference. -/
namespace Go.Proofs.YtbfimfjhdbpenaaGreatDoor
open Go Go.RowKit Go.BigFrame
end Go.Proofs.YtbfimfjhdbpenaaGreatDoor
/- Layer 8: cmp.Compare, cmp.Or; compareFixings, compareChoices of the program. -/
namespace Go.Proofs.YtbfimfjhdbpenaaGreatDoor
open Go Go.RowKit Go.BigFrame
set_option maxRecDepth 100000 in
theorem nanS_any (x : ByteArray) (w : World) : Calls Tryz.prog 139 #[.string x] w fun e w' => e = .returned (.bool false) ∧ w = w' := by
  go_enter Tryz.func139, Tryz.ntmps139
  go_wp2
  go_ret
  exact ⟨rfl, rfl⟩
set_option maxRecDepth 100000 in
theorem nanI_any (x : Int) (w : World) : Calls Tryz.prog 140 #[.int .i64 x] w fun e w' => e = .returned (.bool false) ∧ w = w' := by
  go_enter Tryz.func140, Tryz.ntmps140
  go_wp2
  go_ret
  exact ⟨rfl, rfl⟩
set_option maxRecDepth 100000 in
theorem pcmpS_any (x y : ByteArray) (w : World) : Calls Tryz.prog 100 #[.string x, .string y] w fun e w' => e = .returned (.int .i64 (cmS x.data.toList y.data.toList)) ∧ w = w' := by
  have HX := Lib.hid (fun W => nanS_any x W)
  have HY := Lib.hid (fun W => nanS_any y W)
  rcases str_ord x y with ⟨h0, h1, h2⟩ | ⟨rfl, h1⟩ | ⟨h0, h1, h2, h3⟩
  · rw [show cmS x.data.toList y.data.toList = -1 by unfold cmS; rw [h0]; rfl]
    clear h0
    go_enter Tryz.func100, Tryz.ntmps100
    go_wp2_with (first
      | (go_at_call 139; ((with_reducible refine (HX.out _).mono ?_); rintro e w1 ⟨rfl, rfl⟩))
      | (go_at_call 139; ((with_reducible refine (HY.out _).mono ?_); rintro e w1 ⟨rfl, rfl⟩)))
    go_ret
    exact ⟨rfl, rfl⟩
  · rw [show cmS x.data.toList x.data.toList = 0 by unfold cmS; rw [bl_irrefl]; rfl]
    go_enter Tryz.func100, Tryz.ntmps100
    go_wp2_with (first
      | (go_at_call 139; ((with_reducible refine (HX.out _).mono ?_); rintro e w1 ⟨rfl, rfl⟩)))
    go_ret
    exact ⟨rfl, rfl⟩
  · rw [show cmS x.data.toList y.data.toList = 1 by unfold cmS; rw [Lib.toList_data, Lib.toList_data] at h1; rw [show bl x.data.toList y.data.toList = false from h1, h0]; rfl]
    clear h0
    go_enter Tryz.func100, Tryz.ntmps100
    go_wp2_with (first
      | (go_at_call 139; ((with_reducible refine (HX.out _).mono ?_); rintro e w1 ⟨rfl, rfl⟩))
      | (go_at_call 139; ((with_reducible refine (HY.out _).mono ?_); rintro e w1 ⟨rfl, rfl⟩)))
    go_ret
    exact ⟨rfl, rfl⟩
set_option maxRecDepth 100000 in
theorem pcmpI_any (x y : Int) (w : World) : Calls Tryz.prog 101 #[.int .i64 x, .int .i64 y] w fun e w' => e = .returned (.int .i64 (cmI x y)) ∧ w = w' := by
  have HX := Lib.hid (fun W => nanI_any x W)
  have HY := Lib.hid (fun W => nanI_any y W)
  by_cases h1 : x < y
  · rw [show cmI x y = -1 by unfold cmI; rw [if_pos h1]]
    go_enter Tryz.func101, Tryz.ntmps101
    go_wp2_with (first
      | (go_at_call 140; ((with_reducible refine (HX.out _).mono ?_); rintro e w1 ⟨rfl, rfl⟩))
      | (go_at_call 140; ((with_reducible refine (HY.out _).mono ?_); rintro e w1 ⟨rfl, rfl⟩)))
    go_ret
    exact ⟨rfl, rfl⟩
  · by_cases h2 : y < x
    · rw [show cmI x y = 1 by unfold cmI; rw [if_neg h1, if_pos h2]]
      go_enter Tryz.func101, Tryz.ntmps101
      go_wp2_with (first
        | (go_at_call 140; ((with_reducible refine (HX.out _).mono ?_); rintro e w1 ⟨rfl, rfl⟩))
        | (go_at_call 140; ((with_reducible refine (HY.out _).mono ?_); rintro e w1 ⟨rfl, rfl⟩)))
      go_ret
      exact ⟨rfl, rfl⟩
    · rw [show cmI x y = 0 by unfold cmI; rw [if_neg h1, if_neg h2]]
      go_enter Tryz.func101, Tryz.ntmps101
      go_wp2_with (first
        | (go_at_call 140; ((with_reducible refine (HX.out _).mono ?_); rintro e w1 ⟨rfl, rfl⟩))
        | (go_at_call 140; ((with_reducible refine (HY.out _).mono ?_); rintro e w1 ⟨rfl, rfl⟩)))
      go_ret
      exact ⟨rfl, rfl⟩
def orL : List Int → Int
  | [] => 0
  | x :: l => orI x (orL l)
theorem orL_drop (l : List Int) (k : Nat) (h : ∀ j, j < k → ∀ (h : j < l.length), l[j] = 0) : orL l = orL (l.drop k) := by
  induction k with
  | zero => rfl
  | succ k ih =>
    rw [ih (fun j hj => h j (by omega))]
    rcases Nat.lt_or_ge k l.length with g | g
    · rw [List.drop_eq_getElem_cons g, orL, h k (by omega) g]; rfl
    · rw [List.drop_eq_nil_of_le g, List.drop_eq_nil_of_le (by omega)]
set_option maxRecDepth 100000 in
theorem cor_anyO (A : Option Addr) (c : Nat) (l : List Int) (hl : l.length ≤ 1000) (w : World) (hA : SlA i64V w A l) :
    Calls Tryz.prog 99 #[.slice A l.length c] w fun e w' => e = .returned (.int .i64 (orL l)) ∧ w = w' := by
  obtain ⟨R, hR⟩ : ∃ R, orL l = R := ⟨_, rfl⟩
  have HA := Lib.hid hA
  have HR := Lib.hid hR
  rw [hR]
  clear hA hR
  go_enter Tryz.func99, Tryz.ntmps99
  go_wp2
  go_loop [8] (fun i => ∃ k : Nat, k ≤ l.length ∧ i = .int .i64 k ∧ Hid (∀ j, j < k → ∀ (h : j < l.length), l[j] = 0)) (fun i => l.length - (intOf i).toNat)
  case atStart => exact ⟨0, by omega, rfl, fun j h => by omega⟩
  case round =>
    obtain ⟨k, hk, rfl, HI⟩ := hrel
    have ho := orL_drop l k HI.out
    by_cases hlt : k < l.length
    · obtain ⟨b, o, rfl, -, d0⟩ := HA.out.get hlt
      rw [List.drop_eq_getElem_cons hlt, orL, HR.out] at ho
      have HI2 : Hid (l[k] = 0 → ∀ j, j < k + 1 → ∀ (h : j < l.length), l[j] = 0) := fun g j hj h => by
        rcases Nat.lt_or_ge j k with q | q
        · exact HI.out j q h
        · obtain rfl : j = k := by omega
          exact g
      have hk1 : (k : Int) < (l.length : Int) := by omega
      have d1 : w.cell? ⟨b, o + k, none⟩ = some (.int .i64 l[k]) := d0
      clear HI HA HR d0
      generalize l[k] = x at *
      by_cases hx : x = 0
      · subst hx
        have HI3 := Lib.hid (HI2.out rfl)
        clear ho HI2
        go_wp2
        go_round
        case rel => exact ⟨k + 1, by omega, by go_num, HI3⟩
        case measure => simp [intOf]; omega
      · have hn : (x != 0) = true := by rw [bne_iff_ne]; exact hx
        have hn2 : (x == 0) = false := by rw [beq_eq_false_iff_ne]; exact hx
        obtain rfl : R = x := by rw [ho]; unfold orI; rw [if_neg hx]
        clear ho HI2 hx
        go_wp2
        go_ret
        exact ⟨rfl, rfl⟩
    · obtain rfl : k = l.length := by omega
      obtain rfl : R = 0 := by rw [← HR.out, ho, List.drop_length]; rfl
      clear ho HI HR
      go_wp2
      go_ret
      exact ⟨rfl, rfl⟩
end Go.Proofs.YtbfimfjhdbpenaaGreatDoor
/- Layer 8: compareFixings, compareChoices, isFixing, isChoice of the program. -/
namespace Go.Proofs.YtbfimfjhdbpenaaGreatDoor
open Go Go.RowKit Go.BigFrame
theorem orI_zero (x : Int) : orI x 0 = x := by unfold orI; split <;> simp_all
set_option maxRecDepth 100000 in
set_option maxHeartbeats 3200000 in
theorem compareFixings_any (n v n' v' : ByteArray) (d d' : Int) (w : World) : Calls Tryz.prog 56 #[.agg #[.string n, .int .i64 d, .string v], .agg #[.string n', .int .i64 d', .string v']] w (IntRO (cmK ([], n.data.toList, d) ([], n'.data.toList, d')) w) := by
  have HB1 := belO w (.cells #[.string n, .int .i64 d, .string v] 44)
  obtain ⟨w0, hw0⟩ : ∃ w0, w.alloc (.cells #[.string n, .int .i64 d, .string v] 44) = w0 := ⟨_, rfl⟩
  have hs0 : w0.heap.size = w.heap.size + 1 := by rw [← hw0, World.size_alloc]
  have a0 : w0.cell? ⟨w.heap.size, 0, none⟩ = some (.string n) := by rw [← hw0, World.cell?_alloc_at _ _ _ _ rfl]; rfl
  have a1 : w0.cell? ⟨w.heap.size, 1, none⟩ = some (.int .i64 d) := by rw [← hw0, World.cell?_alloc_at _ _ _ _ rfl]; rfl
  have a2 : w0.cell? ⟨w.heap.size, 2, none⟩ = some (.string v) := by rw [← hw0, World.cell?_alloc_at _ _ _ _ rfl]; rfl
  rw [hw0] at HB1
  have HB2 := belO w0 (.cells #[.string n', .int .i64 d', .string v'] 44)
  obtain ⟨w1, hw1⟩ : ∃ w1, w0.alloc (.cells #[.string n', .int .i64 d', .string v'] 44) = w1 := ⟨_, rfl⟩
  have b0 : w1.cell? ⟨w.heap.size + 1, 0, none⟩ = some (.string n') := by rw [← hw1, World.cell?_alloc_at _ _ _ _ hs0.symm]; rfl
  have b1 : w1.cell? ⟨w.heap.size + 1, 1, none⟩ = some (.int .i64 d') := by rw [← hw1, World.cell?_alloc_at _ _ _ _ hs0.symm]; rfl
  have b2 : w1.cell? ⟨w.heap.size + 1, 2, none⟩ = some (.string v') := by rw [← hw1, World.cell?_alloc_at _ _ _ _ hs0.symm]; rfl
  rw [hw1] at HB2
  have c0 := cellO HB2 a0
  have c1 := cellO HB2 a1
  have c2 := cellO HB2 a2
  have HB := Lib.hid (btO HB1 HB2)
  clear HB1 HB2 a0 a1 a2
  have H1 := Lib.hid (fun W => pcmpS_any n n' W)
  have H3 := Lib.hid (fun W => pcmpI_any d d' W)
  have HO : Hid (∀ (W : World) (t : TypeId), Calls Tryz.prog 99 #[.slice (some ⟨W.heap.size, 0, none⟩) 2 2] (W.alloc (.cells #[.int .i64 (cmS n.data.toList n'.data.toList), .int .i64 (cmI d d')] t)).drew fun e w' => e = .returned (.int .i64 (orL [(cmS n.data.toList n'.data.toList), (cmI d d')])) ∧ (W.alloc (.cells #[.int .i64 (cmS n.data.toList n'.data.toList), .int .i64 (cmI d d')] t)).drew = w') := fun W t => cor_anyO (some ⟨W.heap.size, 0, none⟩) 2 [(cmS n.data.toList n'.data.toList), (cmI d d')] (by simp) _ (SlA.of_cells (show (W.alloc _).drew.heap[W.heap.size]? = some _ from heap_alloc_new W _) rfl)
  obtain ⟨R, hR⟩ : ∃ R, (orL [(cmS n.data.toList n'.data.toList), (cmI d d')]) = R := ⟨_, rfl⟩
  have hK : cmK ([], n.data.toList, d) ([], n'.data.toList, d') = R := by rw [← hR]; rw [← cmK_fix]; simp only [orL, orI_zero]
  rw [hR] at HO
  rw [hK]
  clear hK hR
  go_enter Tryz.func56, Tryz.ntmps56
  go_wp2_with (fail)
  clear hw0 hw1 hs0
  go_region_held3 (fun w' => w'.cell? ⟨w.heap.size, 0, none⟩ = some (.string n) ∧ w'.cell? ⟨w.heap.size, 1, none⟩ = some (.int .i64 d) ∧ w'.cell? ⟨w.heap.size, 2, none⟩ = some (.string v) ∧ w'.cell? ⟨w.heap.size + 1, 0, none⟩ = some (.string n') ∧ w'.cell? ⟨w.heap.size + 1, 1, none⟩ = some (.int .i64 d') ∧ w'.cell? ⟨w.heap.size + 1, 2, none⟩ = some (.string v') ∧ Below w1.heap.size w1 w')
    (((try go_split_ands); (and_intros) <;> first
      | assumption | exact (Below.refl _ _).drew | exact ((Below.refl _ _).alloc (Nat.le_refl _) _).drew | exact ((Below.refl _ _).drew).alloc (Nat.le_refl _) _ | exact Below.drew (by assumption) | (go_keep; done)))
    (first
      | (go_split_ands; go_at_call 100; refine (H1.out _).mono ?_; rintro e w6 ⟨rfl, rfl⟩)
      | (go_split_ands; go_at_call 101; refine (H3.out _).mono ?_; rintro e w6 ⟨rfl, rfl⟩)
      | (go_split_ands; go_at_call 99; refine (HO.out _ _).mono ?_; rintro e w6 ⟨rfl, rfl⟩))
  go_wp2_with (fail)
  go_ret
  exact ⟨rfl, btO HB.out (Below.drew (belO _ _))⟩
set_option maxRecDepth 100000 in
set_option maxHeartbeats 3200000 in
theorem compareChoices_any (p n p' n' : ByteArray) (d d' : Int) (f f' : Bool) (w : World) : Calls Tryz.prog 59 #[.agg #[.string p, .string n, .int .i64 d, .bool f], .agg #[.string p', .string n', .int .i64 d', .bool f']] w (IntRO (cmK (p.data.toList, n.data.toList, d) (p'.data.toList, n'.data.toList, d')) w) := by
  have HB1 := belO w (.cells #[.string p, .string n, .int .i64 d, .bool f] 47)
  obtain ⟨w0, hw0⟩ : ∃ w0, w.alloc (.cells #[.string p, .string n, .int .i64 d, .bool f] 47) = w0 := ⟨_, rfl⟩
  have hs0 : w0.heap.size = w.heap.size + 1 := by rw [← hw0, World.size_alloc]
  have a0 : w0.cell? ⟨w.heap.size, 0, none⟩ = some (.string p) := by rw [← hw0, World.cell?_alloc_at _ _ _ _ rfl]; rfl
  have a1 : w0.cell? ⟨w.heap.size, 1, none⟩ = some (.string n) := by rw [← hw0, World.cell?_alloc_at _ _ _ _ rfl]; rfl
  have a2 : w0.cell? ⟨w.heap.size, 2, none⟩ = some (.int .i64 d) := by rw [← hw0, World.cell?_alloc_at _ _ _ _ rfl]; rfl
  have a3 : w0.cell? ⟨w.heap.size, 3, none⟩ = some (.bool f) := by rw [← hw0, World.cell?_alloc_at _ _ _ _ rfl]; rfl
  rw [hw0] at HB1
  have HB2 := belO w0 (.cells #[.string p', .string n', .int .i64 d', .bool f'] 47)
  obtain ⟨w1, hw1⟩ : ∃ w1, w0.alloc (.cells #[.string p', .string n', .int .i64 d', .bool f'] 47) = w1 := ⟨_, rfl⟩
  have b0 : w1.cell? ⟨w.heap.size + 1, 0, none⟩ = some (.string p') := by rw [← hw1, World.cell?_alloc_at _ _ _ _ hs0.symm]; rfl
  have b1 : w1.cell? ⟨w.heap.size + 1, 1, none⟩ = some (.string n') := by rw [← hw1, World.cell?_alloc_at _ _ _ _ hs0.symm]; rfl
  have b2 : w1.cell? ⟨w.heap.size + 1, 2, none⟩ = some (.int .i64 d') := by rw [← hw1, World.cell?_alloc_at _ _ _ _ hs0.symm]; rfl
  have b3 : w1.cell? ⟨w.heap.size + 1, 3, none⟩ = some (.bool f') := by rw [← hw1, World.cell?_alloc_at _ _ _ _ hs0.symm]; rfl
  rw [hw1] at HB2
  have c0 := cellO HB2 a0
  have c1 := cellO HB2 a1
  have c2 := cellO HB2 a2
  have c3 := cellO HB2 a3
  have HB := Lib.hid (btO HB1 HB2)
  clear HB1 HB2 a0 a1 a2 a3
  have H1 := Lib.hid (fun W => pcmpS_any p p' W)
  have H2 := Lib.hid (fun W => pcmpS_any n n' W)
  have H3 := Lib.hid (fun W => pcmpI_any d d' W)
  have HO : Hid (∀ (W : World) (t : TypeId), Calls Tryz.prog 99 #[.slice (some ⟨W.heap.size, 0, none⟩) 3 3] (W.alloc (.cells #[.int .i64 (cmS p.data.toList p'.data.toList), .int .i64 (cmS n.data.toList n'.data.toList), .int .i64 (cmI d d')] t)).drew fun e w' => e = .returned (.int .i64 (orL [(cmS p.data.toList p'.data.toList), (cmS n.data.toList n'.data.toList), (cmI d d')])) ∧ (W.alloc (.cells #[.int .i64 (cmS p.data.toList p'.data.toList), .int .i64 (cmS n.data.toList n'.data.toList), .int .i64 (cmI d d')] t)).drew = w') := fun W t => cor_anyO (some ⟨W.heap.size, 0, none⟩) 3 [(cmS p.data.toList p'.data.toList), (cmS n.data.toList n'.data.toList), (cmI d d')] (by simp) _ (SlA.of_cells (show (W.alloc _).drew.heap[W.heap.size]? = some _ from heap_alloc_new W _) rfl)
  obtain ⟨R, hR⟩ : ∃ R, (orL [(cmS p.data.toList p'.data.toList), (cmS n.data.toList n'.data.toList), (cmI d d')]) = R := ⟨_, rfl⟩
  have hK : cmK (p.data.toList, n.data.toList, d) (p'.data.toList, n'.data.toList, d') = R := by rw [← hR]; rw [← cmK_cho]; simp only [orL, orI_zero]
  rw [hR] at HO
  rw [hK]
  clear hK hR
  go_enter Tryz.func59, Tryz.ntmps59
  go_wp2_with (fail)
  clear hw0 hw1 hs0
  go_region_held3 (fun w' => w'.cell? ⟨w.heap.size, 0, none⟩ = some (.string p) ∧ w'.cell? ⟨w.heap.size, 1, none⟩ = some (.string n) ∧ w'.cell? ⟨w.heap.size, 2, none⟩ = some (.int .i64 d) ∧ w'.cell? ⟨w.heap.size, 3, none⟩ = some (.bool f) ∧ w'.cell? ⟨w.heap.size + 1, 0, none⟩ = some (.string p') ∧ w'.cell? ⟨w.heap.size + 1, 1, none⟩ = some (.string n') ∧ w'.cell? ⟨w.heap.size + 1, 2, none⟩ = some (.int .i64 d') ∧ w'.cell? ⟨w.heap.size + 1, 3, none⟩ = some (.bool f') ∧ Below w1.heap.size w1 w')
    (((try go_split_ands); (and_intros) <;> first
      | assumption | exact (Below.refl _ _).drew | exact ((Below.refl _ _).alloc (Nat.le_refl _) _).drew | exact ((Below.refl _ _).drew).alloc (Nat.le_refl _) _ | exact Below.drew (by assumption) | (go_keep; done)))
    (first
      | (go_split_ands; go_at_call 100; with_reducible refine (H1.out _).mono ?_; rintro e w6 ⟨rfl, rfl⟩)
      | (go_split_ands; go_at_call 100; with_reducible refine (H2.out _).mono ?_; rintro e w6 ⟨rfl, rfl⟩)
      | (go_split_ands; go_at_call 101; with_reducible refine (H3.out _).mono ?_; rintro e w6 ⟨rfl, rfl⟩)
      | (go_split_ands; go_at_call 99; refine (HO.out _ _).mono ?_; rintro e w6 ⟨rfl, rfl⟩))
  go_wp2_with (fail)
  go_ret
  exact ⟨rfl, btO HB.out (Below.drew (belO _ _))⟩
def Fx.plc (f : Fx) : Bool := nameO f.1.data.toList && dayO f.2.1
set_option maxRecDepth 100000 in
set_option maxHeartbeats 1600000 in
theorem hasPlace_any (n : ByteArray) (d : Int) (v : ByteArray) (w : World) : Calls Tryz.prog 53 #[.agg #[.string n, .int .i64 d, .string v]] w (BoolRO (Fx.plc (n, d, v)) w) := by
  have HB1 := belO w (.cells #[.string n, .int .i64 d, .string v] 44)
  obtain ⟨w1, hw1⟩ : ∃ w1, w.alloc (.cells #[.string n, .int .i64 d, .string v] 44) = w1 := ⟨_, rfl⟩
  have c0 : w1.cell? ⟨w.heap.size, 0, none⟩ = some (.string n) := by rw [← hw1, World.cell?_alloc_at _ _ _ _ rfl]; rfl
  have c1 : w1.cell? ⟨w.heap.size, 1, none⟩ = some (.int .i64 d) := by rw [← hw1, World.cell?_alloc_at _ _ _ _ rfl]; rfl
  have c2 : w1.cell? ⟨w.heap.size, 2, none⟩ = some (.string v) := by rw [← hw1, World.cell?_alloc_at _ _ _ _ rfl]; rfl
  rw [hw1] at HB1
  have HB := Lib.hid HB1
  clear HB1
  have HN := Lib.hid (fun W => pname8_any n _ rfl W)
  have HD := Lib.hid (fun W => pday_any d W)
  have hv : Fx.plc (n, d, v) = (nameO n.data.toList && dayO d) := rfl
  rw [hv]
  cases h : nameO n.data.toList
  · rw [h] at HN
    clear h hv
    go_enter Tryz.func53, Tryz.ntmps53
    go_wp2_with (first
      | (go_at_call 10; ((with_reducible refine (HN.out _).mono ?_); rintro x w2 ⟨rfl, rfl⟩))
      | (go_at_call 87; ((with_reducible refine (HD.out _).mono ?_); rintro x w2 ⟨rfl, rfl⟩)))
    go_ret
    exact ⟨rfl, HB.out⟩
  · rw [h] at HN
    clear h hv
    go_enter Tryz.func53, Tryz.ntmps53
    go_wp2_with (first
      | (go_at_call 10; ((with_reducible refine (HN.out _).mono ?_); rintro x w2 ⟨rfl, rfl⟩))
      | (go_at_call 87; ((with_reducible refine (HD.out _).mono ?_); rintro x w2 ⟨rfl, rfl⟩)))
    go_ret
    exact ⟨rfl, HB.out⟩
theorem Fx.ok_plc (f : Fx) : Fx.ok f = (Fx.plc f && decide (chkR f.2.2.data.toList = 0)) := rfl
set_option maxRecDepth 100000 in
set_option maxHeartbeats 1600000 in
theorem isFixing_any (n : ByteArray) (d : Int) (v : ByteArray) (w : World) (hvr : VarR w) (hv : v.size ≤ 1048576) : Calls Tryz.prog 61 #[.agg #[.string n, .int .i64 d, .string v]] w (BoolRO (Fx.ok (n, d, v)) w) := by
  have HB1 := belO w (.cells #[.string n, .int .i64 d, .string v] 44)
  obtain ⟨w1, hw1⟩ : ∃ w1, w.alloc (.cells #[.string n, .int .i64 d, .string v] 44) = w1 := ⟨_, rfl⟩
  have c0 : w1.cell? ⟨w.heap.size, 0, none⟩ = some (.string n) := by rw [← hw1, World.cell?_alloc_at _ _ _ _ rfl]; rfl
  have c1 : w1.cell? ⟨w.heap.size, 1, none⟩ = some (.int .i64 d) := by rw [← hw1, World.cell?_alloc_at _ _ _ _ rfl]; rfl
  have c2 : w1.cell? ⟨w.heap.size, 2, none⟩ = some (.string v) := by rw [← hw1, World.cell?_alloc_at _ _ _ _ rfl]; rfl
  rw [hw1] at HB1
  have HB := Lib.hid HB1
  have HK := Lib.hid (fun W (hW : Below w1.heap.size w1 W) => rcheck_any v hv W ((hvr.below HB1).below hW))
  clear HB1
  have HP := Lib.hid (fun W => hasPlace_any n d v W)
  rw [Fx.ok_plc]
  show Calls Tryz.prog 61 #[.agg #[.string n, .int .i64 d, .string v]] w (BoolRO (Fx.plc (n, d, v) && decide (chkR v.data.toList = 0)) w)
  cases h : Fx.plc (n, d, v)
  · rw [h] at HP
    clear h hv hvr
    go_enter Tryz.func61, Tryz.ntmps61
    go_wp2_with (first
      | (go_at_call 53; ((with_reducible refine (HP.out _).mono ?_); rintro x w2 ⟨rfl, hb⟩; have HY := Lib.hid (btO HB.out hb); have e0 := cellO hb c0; have e1 := cellO hb c1; have e2 := cellO hb c2; have HBz := Lib.hid hb; clear hb))
      | (go_at_call 54; ((with_reducible refine (HK.out _ HBz.out).mono ?_); rintro x w3 ⟨rfl, hb⟩; have HZ := Lib.hid (btO HY.out hb); clear hb)))
    go_ret
    exact ⟨rfl, HY.out⟩
  · rw [h] at HP
    clear h hv hvr
    generalize chkR v.data.toList = cc at *
    by_cases hc : cc = 0
    · subst hc
      go_enter Tryz.func61, Tryz.ntmps61
      go_wp2_with (first
        | (go_at_call 53; ((with_reducible refine (HP.out _).mono ?_); rintro x w2 ⟨rfl, hb⟩; have HY := Lib.hid (btO HB.out hb); have e0 := cellO hb c0; have e1 := cellO hb c1; have e2 := cellO hb c2; have HBz := Lib.hid hb; clear hb))
        | (go_at_call 54; ((with_reducible refine (HK.out _ HBz.out).mono ?_); rintro x w3 ⟨rfl, hb⟩; have HZ := Lib.hid (btO HY.out hb); clear hb)))
      go_ret
      exact ⟨rfl, HZ.out⟩
    · have hz : (cc == 0) = false := by rw [beq_eq_false_iff_ne]; exact hc
      rw [decide_eq_false hc]
      clear hc
      go_enter Tryz.func61, Tryz.ntmps61
      go_wp2_with (first
        | (go_at_call 53; ((with_reducible refine (HP.out _).mono ?_); rintro x w2 ⟨rfl, hb⟩; have HY := Lib.hid (btO HB.out hb); have e0 := cellO hb c0; have e1 := cellO hb c1; have e2 := cellO hb c2; have HBz := Lib.hid hb; clear hb))
        | (go_at_call 54; ((with_reducible refine (HK.out _ HBz.out).mono ?_); rintro x w3 ⟨rfl, hb⟩; have HZ := Lib.hid (btO HY.out hb); clear hb)))
      go_ret
      exact ⟨rfl, HZ.out⟩
set_option maxRecDepth 100000 in
set_option maxHeartbeats 1600000 in
theorem isChoice_any (p n : ByteArray) (d : Int) (f : Bool) (w : World) : Calls Tryz.prog 57 #[.agg #[.string p, .string n, .int .i64 d, .bool f]] w (BoolRO (Cx.ok (p, n, d, f)) w) := by
  have HB1 := belO w (.cells #[.string p, .string n, .int .i64 d, .bool f] 47)
  obtain ⟨w1, hw1⟩ : ∃ w1, w.alloc (.cells #[.string p, .string n, .int .i64 d, .bool f] 47) = w1 := ⟨_, rfl⟩
  have c0 : w1.cell? ⟨w.heap.size, 0, none⟩ = some (.string p) := by rw [← hw1, World.cell?_alloc_at _ _ _ _ rfl]; rfl
  have c1 : w1.cell? ⟨w.heap.size, 1, none⟩ = some (.string n) := by rw [← hw1, World.cell?_alloc_at _ _ _ _ rfl]; rfl
  have c2 : w1.cell? ⟨w.heap.size, 2, none⟩ = some (.int .i64 d) := by rw [← hw1, World.cell?_alloc_at _ _ _ _ rfl]; rfl
  have c3 : w1.cell? ⟨w.heap.size, 3, none⟩ = some (.bool f) := by rw [← hw1, World.cell?_alloc_at _ _ _ _ rfl]; rfl
  rw [hw1] at HB1
  have HB := Lib.hid HB1
  clear HB1
  have HP := Lib.hid (fun W => pname8_any p _ rfl W)
  have HN := Lib.hid (fun W => pname8_any n _ rfl W)
  have HD := Lib.hid (fun W => pday_any d W)
  have hv : Cx.ok (p, n, d, f) = (nameO p.data.toList && nameO n.data.toList && dayO d) := rfl
  rw [hv]
  clear hv
  cases h : nameO p.data.toList
  · rw [h] at HP
    clear h
    go_enter Tryz.func57, Tryz.ntmps57
    go_wp2_with (first
      | (go_at_call 10; ((with_reducible refine (HP.out _).mono ?_); rintro x w2 ⟨rfl, rfl⟩))
      | (go_at_call 10; ((with_reducible refine (HN.out _).mono ?_); rintro x w2 ⟨rfl, rfl⟩))
      | (go_at_call 87; ((with_reducible refine (HD.out _).mono ?_); rintro x w2 ⟨rfl, rfl⟩)))
    go_ret
    exact ⟨rfl, HB.out⟩
  · rw [h] at HP
    cases h2 : nameO n.data.toList
    · rw [h2] at HN
      clear h h2
      go_enter Tryz.func57, Tryz.ntmps57
      go_wp2_with (first
        | (go_at_call 10; ((with_reducible refine (HP.out _).mono ?_); rintro x w2 ⟨rfl, rfl⟩))
        | (go_at_call 10; ((with_reducible refine (HN.out _).mono ?_); rintro x w2 ⟨rfl, rfl⟩))
        | (go_at_call 87; ((with_reducible refine (HD.out _).mono ?_); rintro x w2 ⟨rfl, rfl⟩)))
      go_ret
      exact ⟨rfl, HB.out⟩
    · rw [h2] at HN
      clear h h2
      go_enter Tryz.func57, Tryz.ntmps57
      go_wp2_with (first
        | (go_at_call 10; ((with_reducible refine (HP.out _).mono ?_); rintro x w2 ⟨rfl, rfl⟩))
        | (go_at_call 10; ((with_reducible refine (HN.out _).mono ?_); rintro x w2 ⟨rfl, rfl⟩))
        | (go_at_call 87; ((with_reducible refine (HD.out _).mono ?_); rintro x w2 ⟨rfl, rfl⟩)))
      go_ret
      exact ⟨rfl, HB.out⟩
end Go.Proofs.YtbfimfjhdbpenaaGreatDoor
/- Layer 8: inOrder, CheckEnv of the program. -/
namespace Go.Proofs.YtbfimfjhdbpenaaGreatDoor
open Go Go.RowKit Go.BigFrame
set_option maxRecDepth 100000 in
set_option maxHeartbeats 12800000 in
theorem inOrderF_any (A : Option Addr) (c : Nat) (fs : List Fx) (w : World) (hA : RowsR w A 3 fxC fs) (hl : fs.length ≤ 140737488351232) (hvr : VarR w) (hsz : ∀ f ∈ fs, f.2.2.size ≤ 1048576) :
    Calls Tryz.prog 60 #[.slice A fs.length c, .func (.func 61) #[] #[], .func (.func 56) #[] #[]] w (BoolRO (ordB Fx.key Fx.ok fs) w) := by
  have mixed : Tryz.prog.follows Departure.mixedOrders = true := by kernel_rfl
  have HA := Lib.hid hA
  have HVR := Lib.hid hvr
  have HSZ : Hid (∀ f ∈ fs, f.2.2.size ≤ 1048576) := hsz
  obtain ⟨R, hR⟩ : ∃ R : Bool, ordB Fx.key Fx.ok fs = R := ⟨_, rfl⟩
  have HX : Hid (∀ k, k < fs.length → okJ Fx.key Fx.ok fs k = false → R = false) := fun k hk g => by
    rw [← hR, Bool.eq_false_iff]; intro e; rw [(ordB_iff _ _ _).1 e k hk] at g; cases g
  have HX0 : Hid ((∀ i, i < fs.length → okJ Fx.key Fx.ok fs i = true) → R = true) := fun g1 => by rw [← hR]; exact (ordB_iff Fx.key Fx.ok fs).2 g1
  rw [hR]
  clear hR hA hvr hsz
  go_enter Tryz.func60, Tryz.ntmps60
  go_wp2_with (fail)
  go_loopw [11] (fun i wr => ∃ k : Nat, k ≤ fs.length ∧ i = .int .i64 k ∧ Hid (∀ i, i < k → okJ Fx.key Fx.ok fs i = true) ∧ Hid (Below w.heap.size w wr)) (fun i _ => fs.length - (intOf i).toNat)
  case atStart => exact ⟨0, by omega, rfl, fun i h => by omega, Below.refl _ _⟩
  case round =>
    obtain ⟨k, hk, rfl, HJ, HW⟩ := hrel
    by_cases hlt : k < fs.length
    ·
      have HIW := Lib.hid (HA.out.below HW.out)
      obtain ⟨bb, o, eA, -, d0, d1, d2⟩ := RowsR.fx HIW.out hlt
      have hbnd := HSZ.out fs[k] (List.getElem_mem hlt)
      have HXk : Hid (okJ Fx.key Fx.ok fs k = false → R = false) := fun g => HX.out k hlt g
      have HIk : Hid (okJ Fx.key Fx.ok fs k = true → ∀ i, i < k + 1 → okJ Fx.key Fx.ok fs i = true) := fun g i hi => by
        rcases Nat.lt_or_ge i k with q | q
        · exact HJ.out i q
        · obtain rfl : i = k := by omega
          exact g
      have hk1 : (k : Int) < (fs.length : Int) := by omega
      clear HJ
      rcases Nat.eq_zero_or_pos k with hkz | hkp
      · subst hkz
        have hv := okJ_zero Fx.key Fx.ok fs hlt
        rw [hv] at HXk HIk
        generalize fs[0] = ff at *
        obtain ⟨n, d, v⟩ := ff
        simp only at hbnd d0 d1 d2
        subst eA
        simp only [Nat.zero_mul, Nat.add_zero] at d0 d1 d2
        have HBt := Lib.hid (belO wr (.cells #[.string n, .int .i64 d, .string v] 44))
        have t0 : (wr.alloc (.cells #[.string n, .int .i64 d, .string v] 44)).cell? ⟨wr.heap.size, 0, none⟩ = some (.string n) := by rw [World.cell?_alloc_at _ _ _ _ rfl]; rfl
        have t1 : (wr.alloc (.cells #[.string n, .int .i64 d, .string v] 44)).cell? ⟨wr.heap.size, 1, none⟩ = some (.int .i64 d) := by rw [World.cell?_alloc_at _ _ _ _ rfl]; rfl
        have t2 : (wr.alloc (.cells #[.string n, .int .i64 d, .string v] 44)).cell? ⟨wr.heap.size, 2, none⟩ = some (.string v) := by rw [World.cell?_alloc_at _ _ _ _ rfl]; rfl
        have s0 := cellO HBt.out d0
        have s1 := cellO HBt.out d1
        have s2 := cellO HBt.out d2
        have HW5 := Lib.hid (btO HW.out HBt.out)
        have HCs := Lib.hid (And.intro t0 (And.intro t1 (And.intro t2 (And.intro s0 (And.intro s1 (s2))))))
        clear t0 t1 t2 s0 s1 s2
        cases hO : Fx.ok (n, d, v)
        · obtain rfl := HXk.out (by rw [hO])
          clear HXk HIk
          go_wp2_with (fail)
          generalize wr.alloc (.cells #[.string n, .int .i64 d, .string v] 44) = w5 at *
          obtain ⟨t0, t1, t2, s0, s1, s2⟩ := HCs.out
          have zt0 := fun z : Bel w5 => z.cell t0
          have zt1 := fun z : Bel w5 => z.cell t1
          have zt2 := fun z : Bel w5 => z.cell t2
          have zs0 := fun z : Bel w5 => z.cell s0
          have zs1 := fun z : Bel w5 => z.cell s1
          have zs2 := fun z : Bel w5 => z.cell s2
          have HV : Hid (∀ W, Below w5.heap.size w5 W → Calls Tryz.prog 61 #[.agg #[.string n, .int .i64 d, .string v]] W fun e w' => e = .returned (.bool (Fx.ok (n, d, v))) ∧ Below W.heap.size W w') := fun W hW => isFixing_any n d v W (HVR.out.below (btO HW5.out hW)) (by omega)
          rw [hO] at HV
          clear t0 t1 t2 s0 s1 s2 d0 d1 d2 hO
          refine wp_region_bel (by kernel_rfl) (by kernel_rfl) ?_
          repeat (go_big_quiet_step (first
            | (go_at_call 61; with_reducible exact Bel.calls HV.out _)))
          refine wpQuiet_nil ?_
          rintro _ ⟨zz, rfl⟩
          have HZW := Lib.hid (btO HW5.out zz.2)
          generalize zz.1 = w6 at *
          go_wp2_with (fail)
          go_ret
          exact ⟨rfl, HZW.out⟩
        · have HI2 := Lib.hid (HIk.out (by rw [hO]))
          clear HXk HIk
          go_wp2_with (fail)
          generalize wr.alloc (.cells #[.string n, .int .i64 d, .string v] 44) = w5 at *
          obtain ⟨t0, t1, t2, s0, s1, s2⟩ := HCs.out
          have zt0 := fun z : Bel w5 => z.cell t0
          have zt1 := fun z : Bel w5 => z.cell t1
          have zt2 := fun z : Bel w5 => z.cell t2
          have zs0 := fun z : Bel w5 => z.cell s0
          have zs1 := fun z : Bel w5 => z.cell s1
          have zs2 := fun z : Bel w5 => z.cell s2
          have HV : Hid (∀ W, Below w5.heap.size w5 W → Calls Tryz.prog 61 #[.agg #[.string n, .int .i64 d, .string v]] W fun e w' => e = .returned (.bool (Fx.ok (n, d, v))) ∧ Below W.heap.size W w') := fun W hW => isFixing_any n d v W (HVR.out.below (btO HW5.out hW)) (by omega)
          rw [hO] at HV
          clear t0 t1 t2 s0 s1 s2 d0 d1 d2 hO
          refine wp_region_bel (by kernel_rfl) (by kernel_rfl) ?_
          repeat (go_big_quiet_step (first
            | (go_at_call 61; with_reducible exact Bel.calls HV.out _)))
          refine wpQuiet_nil ?_
          rintro _ ⟨zz, rfl⟩
          have HZW := Lib.hid (btO HW5.out zz.2)
          generalize zz.1 = w6 at *
          go_wp2_with (fail)
          go_roundw
          case rel => exact ⟨0 + 1, by omega, by go_num, HI2, HZW⟩
          case measure => simp [intOf]; omega
      · obtain ⟨q, rfl⟩ : ∃ q, k = q + 1 := ⟨k - 1, by omega⟩
        have hlq : q < fs.length := by omega
        have hv := okJ_succ Fx.key Fx.ok fs q hlt
        rw [hv] at HXk HIk
        obtain ⟨bb', o', eA', -, g0, g1, g2⟩ := RowsR.fx HIW.out hlq
        rw [eA] at eA'
        injection eA' with eA'
        injection eA' with e1 e2
        subst e1 e2
        generalize fs[q] = g at *
        obtain ⟨n', d', v'⟩ := g
        simp only at g0 g1 g2
        generalize fs[q + 1] = ff at *
        obtain ⟨n, d, v⟩ := ff
        simp only at hbnd d0 d1 d2
        subst eA
        have HBt := Lib.hid (belO wr (.cells #[.string n, .int .i64 d, .string v] 44))
        have t0 : (wr.alloc (.cells #[.string n, .int .i64 d, .string v] 44)).cell? ⟨wr.heap.size, 0, none⟩ = some (.string n) := by rw [World.cell?_alloc_at _ _ _ _ rfl]; rfl
        have t1 : (wr.alloc (.cells #[.string n, .int .i64 d, .string v] 44)).cell? ⟨wr.heap.size, 1, none⟩ = some (.int .i64 d) := by rw [World.cell?_alloc_at _ _ _ _ rfl]; rfl
        have t2 : (wr.alloc (.cells #[.string n, .int .i64 d, .string v] 44)).cell? ⟨wr.heap.size, 2, none⟩ = some (.string v) := by rw [World.cell?_alloc_at _ _ _ _ rfl]; rfl
        have s0 := cellO HBt.out d0
        have s1 := cellO HBt.out d1
        have s2 := cellO HBt.out d2
        have r0 := cellO HBt.out g0
        have r1 := cellO HBt.out g1
        have r2 := cellO HBt.out g2
        have HW5 := Lib.hid (btO HW.out HBt.out)
        have HCs := Lib.hid (And.intro t0 (And.intro t1 (And.intro t2 (And.intro s0 (And.intro s1 (And.intro s2 (And.intro r0 (And.intro r1 (r2)))))))))
        clear t0 t1 t2 s0 s1 s2 r0 r1 r2
        have hq0 : (0 : Int) ≤ (q : Int) := by omega
        have hq1 : (q : Int) < (fs.length : Int) := by omega
        have hq2 : IntKind.i64.wrap ((q : Int) + 1 - 1) = (q : Int) := by rw [IntKind.wrap_i64]; omega
        have hq3 : (q : Int) + 1 - 1 = (q : Int) := by omega
        have hq5 : decide ((0 : Int) < (q : Int) + 1) = true := by rw [decide_eq_true_eq]; omega
        have hq6 : ((q + 1 : Nat) : Int) = (q : Int) + 1 := rfl
        rw [hq6] at hk1 ⊢
        clear hq6
        cases hO : Fx.ok (n, d, v)
        · obtain rfl := HXk.out (by rw [hO]; rfl)
          clear HXk HIk
          go_wp2_with (fail)
          generalize wr.alloc (.cells #[.string n, .int .i64 d, .string v] 44) = w5 at *
          obtain ⟨t0, t1, t2, s0, s1, s2, r0, r1, r2⟩ := HCs.out
          have zt0 := fun z : Bel w5 => z.cell t0
          have zt1 := fun z : Bel w5 => z.cell t1
          have zt2 := fun z : Bel w5 => z.cell t2
          have zs0 := fun z : Bel w5 => z.cell s0
          have zs1 := fun z : Bel w5 => z.cell s1
          have zs2 := fun z : Bel w5 => z.cell s2
          have zr0 := fun z : Bel w5 => z.cell r0
          have zr1 := fun z : Bel w5 => z.cell r1
          have zr2 := fun z : Bel w5 => z.cell r2
          have HV : Hid (∀ W, Below w5.heap.size w5 W → Calls Tryz.prog 61 #[.agg #[.string n, .int .i64 d, .string v]] W fun e w' => e = .returned (.bool (Fx.ok (n, d, v))) ∧ Below W.heap.size W w') := fun W hW => isFixing_any n d v W (HVR.out.below (btO HW5.out hW)) (by omega)
          rw [hO] at HV
          clear t0 t1 t2 s0 s1 s2 r0 r1 r2 d0 d1 d2 hO
          refine wp_region_bel (by kernel_rfl) (by kernel_rfl) ?_
          repeat (go_big_quiet_step (first
            | (go_at_call 61; with_reducible exact Bel.calls HV.out _)))
          refine wpQuiet_nil ?_
          rintro _ ⟨zz, rfl⟩
          have HZW := Lib.hid (btO HW5.out zz.2)
          generalize zz.1 = w6 at *
          go_wp2_with (fail)
          go_ret
          exact ⟨rfl, HZW.out⟩
        · obtain ⟨m, hm⟩ : ∃ m, cmK (Fx.key (n', d', v')) (Fx.key (n, d, v)) = m := ⟨_, rfl⟩
          have hml := cmK_neg (Fx.key (n', d', v')) (Fx.key (n, d, v))
          rw [hm] at hml
          cases hL : ltK (Fx.key (n', d', v')) (Fx.key (n, d, v))
          · obtain rfl := HXk.out (by rw [hO, hL]; rfl)
            have hg : decide ((0 : Int) ≤ m) = true := by rw [decide_eq_true_eq]; rw [hL] at hml; have : ¬ m < 0 := fun g => Bool.false_ne_true (hml.1 g); omega
            clear HXk HIk hml hL
            go_wp2_with (fail)
            generalize wr.alloc (.cells #[.string n, .int .i64 d, .string v] 44) = w5 at *
            obtain ⟨t0, t1, t2, s0, s1, s2, r0, r1, r2⟩ := HCs.out
            have zt0 := fun z : Bel w5 => z.cell t0
            have zt1 := fun z : Bel w5 => z.cell t1
            have zt2 := fun z : Bel w5 => z.cell t2
            have zs0 := fun z : Bel w5 => z.cell s0
            have zs1 := fun z : Bel w5 => z.cell s1
            have zs2 := fun z : Bel w5 => z.cell s2
            have zr0 := fun z : Bel w5 => z.cell r0
            have zr1 := fun z : Bel w5 => z.cell r1
            have zr2 := fun z : Bel w5 => z.cell r2
            have HV : Hid (∀ W, Below w5.heap.size w5 W → Calls Tryz.prog 61 #[.agg #[.string n, .int .i64 d, .string v]] W fun e w' => e = .returned (.bool (Fx.ok (n, d, v))) ∧ Below W.heap.size W w') := fun W hW => isFixing_any n d v W (HVR.out.below (btO HW5.out hW)) (by omega)
            rw [hO] at HV
            have HM : Hid (∀ W, Below w5.heap.size w5 W → Calls Tryz.prog 56 #[.agg #[.string n', .int .i64 d', .string v'], .agg #[.string n, .int .i64 d, .string v]] W fun e w' => e = .returned (.int .i64 m) ∧ Below W.heap.size W w') := fun W _ => by rw [← hm]; exact compareFixings_any n' v' n v d' d W
            clear t0 t1 t2 s0 s1 s2 r0 r1 r2 d0 d1 d2 hO hm
            refine wp_region_bel (by kernel_rfl) (by kernel_rfl) ?_
            repeat (go_big_quiet_step (first
              | (go_at_call 61; with_reducible exact Bel.calls HV.out _)
              | (go_at_call 56; with_reducible exact Bel.calls HM.out _)))
            refine wpQuiet_nil ?_
            rintro _ ⟨zz, rfl⟩
            have HZW := Lib.hid (btO HW5.out zz.2)
            generalize zz.1 = w6 at *
            go_wp2_with (fail)
            go_ret
            exact ⟨rfl, HZW.out⟩
          · have HI2 := Lib.hid (HIk.out (by rw [hO, hL]; rfl))
            have hg : decide ((0 : Int) ≤ m) = false := by rw [decide_eq_false_iff_not]; have := hml.2 hL; omega
            clear HXk HIk hml hL
            go_wp2_with (fail)
            generalize wr.alloc (.cells #[.string n, .int .i64 d, .string v] 44) = w5 at *
            obtain ⟨t0, t1, t2, s0, s1, s2, r0, r1, r2⟩ := HCs.out
            have zt0 := fun z : Bel w5 => z.cell t0
            have zt1 := fun z : Bel w5 => z.cell t1
            have zt2 := fun z : Bel w5 => z.cell t2
            have zs0 := fun z : Bel w5 => z.cell s0
            have zs1 := fun z : Bel w5 => z.cell s1
            have zs2 := fun z : Bel w5 => z.cell s2
            have zr0 := fun z : Bel w5 => z.cell r0
            have zr1 := fun z : Bel w5 => z.cell r1
            have zr2 := fun z : Bel w5 => z.cell r2
            have HV : Hid (∀ W, Below w5.heap.size w5 W → Calls Tryz.prog 61 #[.agg #[.string n, .int .i64 d, .string v]] W fun e w' => e = .returned (.bool (Fx.ok (n, d, v))) ∧ Below W.heap.size W w') := fun W hW => isFixing_any n d v W (HVR.out.below (btO HW5.out hW)) (by omega)
            rw [hO] at HV
            have HM : Hid (∀ W, Below w5.heap.size w5 W → Calls Tryz.prog 56 #[.agg #[.string n', .int .i64 d', .string v'], .agg #[.string n, .int .i64 d, .string v]] W fun e w' => e = .returned (.int .i64 m) ∧ Below W.heap.size W w') := fun W _ => by rw [← hm]; exact compareFixings_any n' v' n v d' d W
            clear t0 t1 t2 s0 s1 s2 r0 r1 r2 d0 d1 d2 hO hm
            refine wp_region_bel (by kernel_rfl) (by kernel_rfl) ?_
            repeat (go_big_quiet_step (first
              | (go_at_call 61; with_reducible exact Bel.calls HV.out _)
              | (go_at_call 56; with_reducible exact Bel.calls HM.out _)))
            refine wpQuiet_nil ?_
            rintro _ ⟨zz, rfl⟩
            have HZW := Lib.hid (btO HW5.out zz.2)
            generalize zz.1 = w6 at *
            go_wp2_with (fail)
            go_roundw
            case rel => exact ⟨q + 1 + 1, by omega, by go_num, HI2, HZW⟩
            case measure => simp [intOf]; omega
    · obtain rfl : k = fs.length := by omega
      obtain rfl : R = true := HX0.out (fun i h => HJ.out i h)
      clear HJ HX0 HX
      go_wp2_with (fail)
      go_ret
      exact ⟨rfl, HW.out⟩
set_option maxRecDepth 100000 in
set_option maxHeartbeats 12800000 in
theorem inOrderC_any (A : Option Addr) (c : Nat) (cs : List Cx) (w : World) (hA : RowsR w A 4 cxC cs) (hl : cs.length ≤ 140737488351232) (hvr : VarR w) (hsz : ∀ c ∈ cs, True) :
    Calls Tryz.prog 62 #[.slice A cs.length c, .func (.func 57) #[] #[], .func (.func 59) #[] #[]] w (BoolRO (ordB Cx.key Cx.ok cs) w) := by
  have mixed : Tryz.prog.follows Departure.mixedOrders = true := by kernel_rfl
  have HA := Lib.hid hA
  have HVR := Lib.hid hvr
  have HSZ : Hid (∀ c ∈ cs, True) := hsz
  obtain ⟨R, hR⟩ : ∃ R : Bool, ordB Cx.key Cx.ok cs = R := ⟨_, rfl⟩
  have HX : Hid (∀ k, k < cs.length → okJ Cx.key Cx.ok cs k = false → R = false) := fun k hk g => by
    rw [← hR, Bool.eq_false_iff]; intro e; rw [(ordB_iff _ _ _).1 e k hk] at g; cases g
  have HX0 : Hid ((∀ i, i < cs.length → okJ Cx.key Cx.ok cs i = true) → R = true) := fun g1 => by rw [← hR]; exact (ordB_iff Cx.key Cx.ok cs).2 g1
  rw [hR]
  clear hR hA hvr hsz
  go_enter Tryz.func62, Tryz.ntmps62
  go_wp2_with (fail)
  go_loopw [11] (fun i wr => ∃ k : Nat, k ≤ cs.length ∧ i = .int .i64 k ∧ Hid (∀ i, i < k → okJ Cx.key Cx.ok cs i = true) ∧ Hid (Below w.heap.size w wr)) (fun i _ => cs.length - (intOf i).toNat)
  case atStart => exact ⟨0, by omega, rfl, fun i h => by omega, Below.refl _ _⟩
  case round =>
    obtain ⟨k, hk, rfl, HJ, HW⟩ := hrel
    by_cases hlt : k < cs.length
    ·
      have HIW := Lib.hid (HA.out.below HW.out)
      obtain ⟨bb, o, eA, -, d0, d1, d2, d3⟩ := RowsR.cx HIW.out hlt
      have hbnd := HSZ.out cs[k] (List.getElem_mem hlt)
      have HXk : Hid (okJ Cx.key Cx.ok cs k = false → R = false) := fun g => HX.out k hlt g
      have HIk : Hid (okJ Cx.key Cx.ok cs k = true → ∀ i, i < k + 1 → okJ Cx.key Cx.ok cs i = true) := fun g i hi => by
        rcases Nat.lt_or_ge i k with q | q
        · exact HJ.out i q
        · obtain rfl : i = k := by omega
          exact g
      have hk1 : (k : Int) < (cs.length : Int) := by omega
      clear HJ
      rcases Nat.eq_zero_or_pos k with hkz | hkp
      · subst hkz
        have hv := okJ_zero Cx.key Cx.ok cs hlt
        rw [hv] at HXk HIk
        generalize cs[0] = ff at *
        obtain ⟨p, n, d, f⟩ := ff
        simp only at hbnd d0 d1 d2 d3
        subst eA
        simp only [Nat.zero_mul, Nat.add_zero] at d0 d1 d2 d3
        have HBt := Lib.hid (belO wr (.cells #[.string p, .string n, .int .i64 d, .bool f] 47))
        have t0 : (wr.alloc (.cells #[.string p, .string n, .int .i64 d, .bool f] 47)).cell? ⟨wr.heap.size, 0, none⟩ = some (.string p) := by rw [World.cell?_alloc_at _ _ _ _ rfl]; rfl
        have t1 : (wr.alloc (.cells #[.string p, .string n, .int .i64 d, .bool f] 47)).cell? ⟨wr.heap.size, 1, none⟩ = some (.string n) := by rw [World.cell?_alloc_at _ _ _ _ rfl]; rfl
        have t2 : (wr.alloc (.cells #[.string p, .string n, .int .i64 d, .bool f] 47)).cell? ⟨wr.heap.size, 2, none⟩ = some (.int .i64 d) := by rw [World.cell?_alloc_at _ _ _ _ rfl]; rfl
        have t3 : (wr.alloc (.cells #[.string p, .string n, .int .i64 d, .bool f] 47)).cell? ⟨wr.heap.size, 3, none⟩ = some (.bool f) := by rw [World.cell?_alloc_at _ _ _ _ rfl]; rfl
        have s0 := cellO HBt.out d0
        have s1 := cellO HBt.out d1
        have s2 := cellO HBt.out d2
        have s3 := cellO HBt.out d3
        have HW5 := Lib.hid (btO HW.out HBt.out)
        have HCs := Lib.hid (And.intro t0 (And.intro t1 (And.intro t2 (And.intro t3 (And.intro s0 (And.intro s1 (And.intro s2 (s3))))))))
        clear t0 t1 t2 t3 s0 s1 s2 s3
        cases hO : Cx.ok (p, n, d, f)
        · obtain rfl := HXk.out (by rw [hO])
          clear HXk HIk
          go_wp2_with (fail)
          generalize wr.alloc (.cells #[.string p, .string n, .int .i64 d, .bool f] 47) = w5 at *
          obtain ⟨t0, t1, t2, t3, s0, s1, s2, s3⟩ := HCs.out
          have zt0 := fun z : Bel w5 => z.cell t0
          have zt1 := fun z : Bel w5 => z.cell t1
          have zt2 := fun z : Bel w5 => z.cell t2
          have zt3 := fun z : Bel w5 => z.cell t3
          have zs0 := fun z : Bel w5 => z.cell s0
          have zs1 := fun z : Bel w5 => z.cell s1
          have zs2 := fun z : Bel w5 => z.cell s2
          have zs3 := fun z : Bel w5 => z.cell s3
          have HV : Hid (∀ W, Below w5.heap.size w5 W → Calls Tryz.prog 57 #[.agg #[.string p, .string n, .int .i64 d, .bool f]] W fun e w' => e = .returned (.bool (Cx.ok (p, n, d, f))) ∧ Below W.heap.size W w') := fun W hW => isChoice_any p n d f W
          rw [hO] at HV
          clear t0 t1 t2 t3 s0 s1 s2 s3 d0 d1 d2 d3 hO
          refine wp_region_bel (by kernel_rfl) (by kernel_rfl) ?_
          repeat (go_big_quiet_step (first
            | (go_at_call 57; with_reducible exact Bel.calls HV.out _)))
          refine wpQuiet_nil ?_
          rintro _ ⟨zz, rfl⟩
          have HZW := Lib.hid (btO HW5.out zz.2)
          generalize zz.1 = w6 at *
          go_wp2_with (fail)
          go_ret
          exact ⟨rfl, HZW.out⟩
        · have HI2 := Lib.hid (HIk.out (by rw [hO]))
          clear HXk HIk
          go_wp2_with (fail)
          generalize wr.alloc (.cells #[.string p, .string n, .int .i64 d, .bool f] 47) = w5 at *
          obtain ⟨t0, t1, t2, t3, s0, s1, s2, s3⟩ := HCs.out
          have zt0 := fun z : Bel w5 => z.cell t0
          have zt1 := fun z : Bel w5 => z.cell t1
          have zt2 := fun z : Bel w5 => z.cell t2
          have zt3 := fun z : Bel w5 => z.cell t3
          have zs0 := fun z : Bel w5 => z.cell s0
          have zs1 := fun z : Bel w5 => z.cell s1
          have zs2 := fun z : Bel w5 => z.cell s2
          have zs3 := fun z : Bel w5 => z.cell s3
          have HV : Hid (∀ W, Below w5.heap.size w5 W → Calls Tryz.prog 57 #[.agg #[.string p, .string n, .int .i64 d, .bool f]] W fun e w' => e = .returned (.bool (Cx.ok (p, n, d, f))) ∧ Below W.heap.size W w') := fun W hW => isChoice_any p n d f W
          rw [hO] at HV
          clear t0 t1 t2 t3 s0 s1 s2 s3 d0 d1 d2 d3 hO
          refine wp_region_bel (by kernel_rfl) (by kernel_rfl) ?_
          repeat (go_big_quiet_step (first
            | (go_at_call 57; with_reducible exact Bel.calls HV.out _)))
          refine wpQuiet_nil ?_
          rintro _ ⟨zz, rfl⟩
          have HZW := Lib.hid (btO HW5.out zz.2)
          generalize zz.1 = w6 at *
          go_wp2_with (fail)
          go_roundw
          case rel => exact ⟨0 + 1, by omega, by go_num, HI2, HZW⟩
          case measure => simp [intOf]; omega
      · obtain ⟨q, rfl⟩ : ∃ q, k = q + 1 := ⟨k - 1, by omega⟩
        have hlq : q < cs.length := by omega
        have hv := okJ_succ Cx.key Cx.ok cs q hlt
        rw [hv] at HXk HIk
        obtain ⟨bb', o', eA', -, g0, g1, g2, g3⟩ := RowsR.cx HIW.out hlq
        rw [eA] at eA'
        injection eA' with eA'
        injection eA' with e1 e2
        subst e1 e2
        generalize cs[q] = g at *
        obtain ⟨p', n', d', f'⟩ := g
        simp only at g0 g1 g2 g3
        generalize cs[q + 1] = ff at *
        obtain ⟨p, n, d, f⟩ := ff
        simp only at hbnd d0 d1 d2 d3
        subst eA
        have HBt := Lib.hid (belO wr (.cells #[.string p, .string n, .int .i64 d, .bool f] 47))
        have t0 : (wr.alloc (.cells #[.string p, .string n, .int .i64 d, .bool f] 47)).cell? ⟨wr.heap.size, 0, none⟩ = some (.string p) := by rw [World.cell?_alloc_at _ _ _ _ rfl]; rfl
        have t1 : (wr.alloc (.cells #[.string p, .string n, .int .i64 d, .bool f] 47)).cell? ⟨wr.heap.size, 1, none⟩ = some (.string n) := by rw [World.cell?_alloc_at _ _ _ _ rfl]; rfl
        have t2 : (wr.alloc (.cells #[.string p, .string n, .int .i64 d, .bool f] 47)).cell? ⟨wr.heap.size, 2, none⟩ = some (.int .i64 d) := by rw [World.cell?_alloc_at _ _ _ _ rfl]; rfl
        have t3 : (wr.alloc (.cells #[.string p, .string n, .int .i64 d, .bool f] 47)).cell? ⟨wr.heap.size, 3, none⟩ = some (.bool f) := by rw [World.cell?_alloc_at _ _ _ _ rfl]; rfl
        have s0 := cellO HBt.out d0
        have s1 := cellO HBt.out d1
        have s2 := cellO HBt.out d2
        have s3 := cellO HBt.out d3
        have r0 := cellO HBt.out g0
        have r1 := cellO HBt.out g1
        have r2 := cellO HBt.out g2
        have r3 := cellO HBt.out g3
        have HW5 := Lib.hid (btO HW.out HBt.out)
        have HCs := Lib.hid (And.intro t0 (And.intro t1 (And.intro t2 (And.intro t3 (And.intro s0 (And.intro s1 (And.intro s2 (And.intro s3 (And.intro r0 (And.intro r1 (And.intro r2 (r3))))))))))))
        clear t0 t1 t2 t3 s0 s1 s2 s3 r0 r1 r2 r3
        have hq0 : (0 : Int) ≤ (q : Int) := by omega
        have hq1 : (q : Int) < (cs.length : Int) := by omega
        have hq2 : IntKind.i64.wrap ((q : Int) + 1 - 1) = (q : Int) := by rw [IntKind.wrap_i64]; omega
        have hq3 : (q : Int) + 1 - 1 = (q : Int) := by omega
        have hq5 : decide ((0 : Int) < (q : Int) + 1) = true := by rw [decide_eq_true_eq]; omega
        have hq6 : ((q + 1 : Nat) : Int) = (q : Int) + 1 := rfl
        rw [hq6] at hk1 ⊢
        clear hq6
        cases hO : Cx.ok (p, n, d, f)
        · obtain rfl := HXk.out (by rw [hO]; rfl)
          clear HXk HIk
          go_wp2_with (fail)
          generalize wr.alloc (.cells #[.string p, .string n, .int .i64 d, .bool f] 47) = w5 at *
          obtain ⟨t0, t1, t2, t3, s0, s1, s2, s3, r0, r1, r2, r3⟩ := HCs.out
          have zt0 := fun z : Bel w5 => z.cell t0
          have zt1 := fun z : Bel w5 => z.cell t1
          have zt2 := fun z : Bel w5 => z.cell t2
          have zt3 := fun z : Bel w5 => z.cell t3
          have zs0 := fun z : Bel w5 => z.cell s0
          have zs1 := fun z : Bel w5 => z.cell s1
          have zs2 := fun z : Bel w5 => z.cell s2
          have zs3 := fun z : Bel w5 => z.cell s3
          have zr0 := fun z : Bel w5 => z.cell r0
          have zr1 := fun z : Bel w5 => z.cell r1
          have zr2 := fun z : Bel w5 => z.cell r2
          have zr3 := fun z : Bel w5 => z.cell r3
          have HV : Hid (∀ W, Below w5.heap.size w5 W → Calls Tryz.prog 57 #[.agg #[.string p, .string n, .int .i64 d, .bool f]] W fun e w' => e = .returned (.bool (Cx.ok (p, n, d, f))) ∧ Below W.heap.size W w') := fun W hW => isChoice_any p n d f W
          rw [hO] at HV
          clear t0 t1 t2 t3 s0 s1 s2 s3 r0 r1 r2 r3 d0 d1 d2 d3 hO
          refine wp_region_bel (by kernel_rfl) (by kernel_rfl) ?_
          repeat (go_big_quiet_step (first
            | (go_at_call 57; with_reducible exact Bel.calls HV.out _)))
          refine wpQuiet_nil ?_
          rintro _ ⟨zz, rfl⟩
          have HZW := Lib.hid (btO HW5.out zz.2)
          generalize zz.1 = w6 at *
          go_wp2_with (fail)
          go_ret
          exact ⟨rfl, HZW.out⟩
        · obtain ⟨m, hm⟩ : ∃ m, cmK (Cx.key (p', n', d', f')) (Cx.key (p, n, d, f)) = m := ⟨_, rfl⟩
          have hml := cmK_neg (Cx.key (p', n', d', f')) (Cx.key (p, n, d, f))
          rw [hm] at hml
          cases hL : ltK (Cx.key (p', n', d', f')) (Cx.key (p, n, d, f))
          · obtain rfl := HXk.out (by rw [hO, hL]; rfl)
            have hg : decide ((0 : Int) ≤ m) = true := by rw [decide_eq_true_eq]; rw [hL] at hml; have : ¬ m < 0 := fun g => Bool.false_ne_true (hml.1 g); omega
            clear HXk HIk hml hL
            go_wp2_with (fail)
            generalize wr.alloc (.cells #[.string p, .string n, .int .i64 d, .bool f] 47) = w5 at *
            obtain ⟨t0, t1, t2, t3, s0, s1, s2, s3, r0, r1, r2, r3⟩ := HCs.out
            have zt0 := fun z : Bel w5 => z.cell t0
            have zt1 := fun z : Bel w5 => z.cell t1
            have zt2 := fun z : Bel w5 => z.cell t2
            have zt3 := fun z : Bel w5 => z.cell t3
            have zs0 := fun z : Bel w5 => z.cell s0
            have zs1 := fun z : Bel w5 => z.cell s1
            have zs2 := fun z : Bel w5 => z.cell s2
            have zs3 := fun z : Bel w5 => z.cell s3
            have zr0 := fun z : Bel w5 => z.cell r0
            have zr1 := fun z : Bel w5 => z.cell r1
            have zr2 := fun z : Bel w5 => z.cell r2
            have zr3 := fun z : Bel w5 => z.cell r3
            have HV : Hid (∀ W, Below w5.heap.size w5 W → Calls Tryz.prog 57 #[.agg #[.string p, .string n, .int .i64 d, .bool f]] W fun e w' => e = .returned (.bool (Cx.ok (p, n, d, f))) ∧ Below W.heap.size W w') := fun W hW => isChoice_any p n d f W
            rw [hO] at HV
            have HM : Hid (∀ W, Below w5.heap.size w5 W → Calls Tryz.prog 59 #[.agg #[.string p', .string n', .int .i64 d', .bool f'], .agg #[.string p, .string n, .int .i64 d, .bool f]] W fun e w' => e = .returned (.int .i64 m) ∧ Below W.heap.size W w') := fun W _ => by rw [← hm]; exact compareChoices_any p' n' p n d' d f' f W
            clear t0 t1 t2 t3 s0 s1 s2 s3 r0 r1 r2 r3 d0 d1 d2 d3 hO hm
            refine wp_region_bel (by kernel_rfl) (by kernel_rfl) ?_
            repeat (go_big_quiet_step (first
              | (go_at_call 57; with_reducible exact Bel.calls HV.out _)
              | (go_at_call 59; with_reducible exact Bel.calls HM.out _)))
            refine wpQuiet_nil ?_
            rintro _ ⟨zz, rfl⟩
            have HZW := Lib.hid (btO HW5.out zz.2)
            generalize zz.1 = w6 at *
            go_wp2_with (fail)
            go_ret
            exact ⟨rfl, HZW.out⟩
          · have HI2 := Lib.hid (HIk.out (by rw [hO, hL]; rfl))
            have hg : decide ((0 : Int) ≤ m) = false := by rw [decide_eq_false_iff_not]; have := hml.2 hL; omega
            clear HXk HIk hml hL
            go_wp2_with (fail)
            generalize wr.alloc (.cells #[.string p, .string n, .int .i64 d, .bool f] 47) = w5 at *
            obtain ⟨t0, t1, t2, t3, s0, s1, s2, s3, r0, r1, r2, r3⟩ := HCs.out
            have zt0 := fun z : Bel w5 => z.cell t0
            have zt1 := fun z : Bel w5 => z.cell t1
            have zt2 := fun z : Bel w5 => z.cell t2
            have zt3 := fun z : Bel w5 => z.cell t3
            have zs0 := fun z : Bel w5 => z.cell s0
            have zs1 := fun z : Bel w5 => z.cell s1
            have zs2 := fun z : Bel w5 => z.cell s2
            have zs3 := fun z : Bel w5 => z.cell s3
            have zr0 := fun z : Bel w5 => z.cell r0
            have zr1 := fun z : Bel w5 => z.cell r1
            have zr2 := fun z : Bel w5 => z.cell r2
            have zr3 := fun z : Bel w5 => z.cell r3
            have HV : Hid (∀ W, Below w5.heap.size w5 W → Calls Tryz.prog 57 #[.agg #[.string p, .string n, .int .i64 d, .bool f]] W fun e w' => e = .returned (.bool (Cx.ok (p, n, d, f))) ∧ Below W.heap.size W w') := fun W hW => isChoice_any p n d f W
            rw [hO] at HV
            have HM : Hid (∀ W, Below w5.heap.size w5 W → Calls Tryz.prog 59 #[.agg #[.string p', .string n', .int .i64 d', .bool f'], .agg #[.string p, .string n, .int .i64 d, .bool f]] W fun e w' => e = .returned (.int .i64 m) ∧ Below W.heap.size W w') := fun W _ => by rw [← hm]; exact compareChoices_any p' n' p n d' d f' f W
            clear t0 t1 t2 t3 s0 s1 s2 s3 r0 r1 r2 r3 d0 d1 d2 d3 hO hm
            refine wp_region_bel (by kernel_rfl) (by kernel_rfl) ?_
            repeat (go_big_quiet_step (first
              | (go_at_call 57; with_reducible exact Bel.calls HV.out _)
              | (go_at_call 59; with_reducible exact Bel.calls HM.out _)))
            refine wpQuiet_nil ?_
            rintro _ ⟨zz, rfl⟩
            have HZW := Lib.hid (btO HW5.out zz.2)
            generalize zz.1 = w6 at *
            go_wp2_with (fail)
            go_roundw
            case rel => exact ⟨q + 1 + 1, by omega, by go_num, HI2, HZW⟩
            case measure => simp [intOf]; omega
    · obtain rfl : k = cs.length := by omega
      obtain rfl : R = true := HX0.out (fun i h => HJ.out i h)
      clear HJ HX0 HX
      go_wp2_with (fail)
      go_ret
      exact ⟨rfl, HW.out⟩
set_option maxRecDepth 100000 in
set_option maxHeartbeats 3200000 in
theorem pcheckEnv_any (E : Ev) (w : World) (hin : E.In w) (hvr : VarR w) (hsf : ∀ f ∈ E.fs, f.2.2.size ≤ 1048576) : Calls Tryz.prog 22 #[E.val] w (IntRO (envE E.fs E.cs) w) := by
  obtain ⟨fA, fs, fc, cA, cs, cc⟩ := E
  have HB1 := belO w (.cells #[.slice fA fs.length fc, .slice cA cs.length cc] 38)
  obtain ⟨w1, hw1⟩ : ∃ w1, w.alloc (.cells #[.slice fA fs.length fc, .slice cA cs.length cc] 38) = w1 := ⟨_, rfl⟩
  have c0 : w1.cell? ⟨w.heap.size, 0, none⟩ = some (.slice fA fs.length fc) := by rw [← hw1, World.cell?_alloc_at _ _ _ _ rfl]; rfl
  have c1 : w1.cell? ⟨w.heap.size, 1, none⟩ = some (.slice cA cs.length cc) := by rw [← hw1, World.cell?_alloc_at _ _ _ _ rfl]; rfl
  rw [hw1] at HB1
  have HB := Lib.hid HB1
  have hI1 := hin.below HB1
  have HF := Lib.hid (inOrderF_any fA fc fs w1 hI1.f hin.fl (hvr.below HB1) hsf)
  have HC := Lib.hid (fun W (hW : Below w1.heap.size w1 W) => inOrderC_any cA cc cs W (hI1.c.below hW) hin.cl ((hvr.below HB1).below hW) (fun _ _ => trivial))
  show Calls Tryz.prog 22 #[.agg #[.slice fA fs.length fc, .slice cA cs.length cc]] w (IntRO (envE fs cs) w)
  clear hin hvr hsf HB1 hI1
  by_cases h1 : 1000 < (fs.length : Int)
  · rw [show envE fs cs = 4 from if_pos (.inl (by omega))]
    go_enter Tryz.func22, Tryz.ntmps22
    go_wp2_with (fail)
    go_ret
    exact ⟨rfl, HB.out⟩
  · by_cases h2 : 1000 < (cs.length : Int)
    · rw [show envE fs cs = 4 from if_pos (.inr (by omega))]
      go_enter Tryz.func22, Tryz.ntmps22
      go_wp2_with (fail)
      go_ret
      exact ⟨rfl, HB.out⟩
    · rw [show envE fs cs = if ordB Fx.key Fx.ok fs && ordB Cx.key Cx.ok cs then 0 else 8 from if_neg (by omega)]
      cases hF : ordB Fx.key Fx.ok fs
      · rw [hF] at HF
        clear hF
        go_enter Tryz.func22, Tryz.ntmps22
        go_wp2_with (first
          | (go_at_call 60; ((with_reducible refine HF.out.mono ?_); rintro x w2 ⟨rfl, hb⟩; have e0 := cellO hb c0; have e1 := cellO hb c1; have HY := Lib.hid hb; clear hb)))
        go_ret
        exact ⟨rfl, btO HB.out HY.out⟩
      · rw [hF] at HF
        cases hC : ordB Cx.key Cx.ok cs
        · rw [hC] at HC
          clear hF hC
          go_enter Tryz.func22, Tryz.ntmps22
          go_wp2_with (first
            | (go_at_call 60; ((with_reducible refine HF.out.mono ?_); rintro x w2 ⟨rfl, hb⟩; have e0 := cellO hb c0; have e1 := cellO hb c1; have HY := Lib.hid hb; clear hb))
            | (go_at_call 62; ((with_reducible refine (HC.out _ HY.out).mono ?_); rintro x w3 ⟨rfl, hb⟩; have HZ := Lib.hid (btO HY.out hb); clear hb)))
          go_ret
          exact ⟨rfl, btO HB.out HZ.out⟩
        · rw [hC] at HC
          clear hF hC
          go_enter Tryz.func22, Tryz.ntmps22
          go_wp2_with (first
            | (go_at_call 60; ((with_reducible refine HF.out.mono ?_); rintro x w2 ⟨rfl, hb⟩; have e0 := cellO hb c0; have e1 := cellO hb c1; have HY := Lib.hid hb; clear hb))
            | (go_at_call 62; ((with_reducible refine (HC.out _ HY.out).mono ?_); rintro x w3 ⟨rfl, hb⟩; have HZ := Lib.hid (btO HY.out hb); clear hb)))
          go_ret
          exact ⟨rfl, btO HB.out HZ.out⟩
end Go.Proofs.YtbfimfjhdbpenaaGreatDoor
/- Layer 8: Find, Chosen of the reference and of the program. -/
namespace Go.Proofs.YtbfimfjhdbpenaaGreatDoor
open Go Go.RowKit Go.BigFrame
def fxP (n : ByteArray) (d : Int) (f : Fx) : Bool := decide (f.1 = n ∧ f.2.1 = d)
def cxP (p n : ByteArray) (d : Int) (c : Cx) : Bool := decide (c.1 = p ∧ c.2.1 = n ∧ c.2.2.1 = d)
def fndV (fs : List Fx) (n : ByteArray) (d : Int) : ByteArray := match fs.find? (fxP n d) with | some f => f.2.2 | none => ⟨#[]⟩
def fndB (fs : List Fx) (n : ByteArray) (d : Int) : Bool := (fs.find? (fxP n d)).isSome
def chsB (cs : List Cx) (p n : ByteArray) (d : Int) : Bool := match cs.find? (cxP p n d) with | some c => c.2.2.2 | none => false
theorem find_at {α : Type} (q : α → Bool) (l : List α) (k : Nat) (hk : k < l.length) (h : ∀ j, j < k → ∀ (h : j < l.length), q l[j] = false) (hq : q l[k] = true) : l.find? q = some l[k] := by
  induction l generalizing k with
  | nil => simp at hk
  | cons x l ih =>
    cases k with
    | zero =>
      have hx : q x = true := hq
      rw [List.find?_cons, hx]; rfl
    | succ k =>
      have h0 : q x = false := h 0 (by omega) (by simp)
      rw [List.find?_cons, h0]
      exact ih k (by simpa using hk) (fun j hj hl => h (j + 1) (by omega) (by simpa using hl)) hq
theorem find_no {α : Type} (q : α → Bool) (l : List α) (h : ∀ j, ∀ (h : j < l.length), q l[j] = false) : l.find? q = none := by
  rw [List.find?_eq_none]
  intro x hx
  obtain ⟨j, hj, rfl⟩ := List.getElem_of_mem hx
  rw [h j hj]; exact Bool.false_ne_true
theorem fxP_cases (n : ByteArray) (d : Int) (x : Fx) : (x.1 = n ∧ x.2.1 = d ∧ fxP n d x = true) ∨ (fxP n d x = false ∧ ((x.1.toList == n.toList) = false ∨ (x.1 = n ∧ (x.2.1 == d) = false))) := by
  unfold fxP
  rcases str_cases x.1 n with h | h
  · by_cases hd : x.2.1 = d
    · exact .inl ⟨h, hd, by simp [h, hd]⟩
    · exact .inr ⟨by simp [hd], .inr ⟨h, by rw [beq_eq_false_iff_ne]; exact hd⟩⟩
  · exact .inr ⟨by simp [str_ne h], .inl h⟩
theorem cxP_cases (p n : ByteArray) (d : Int) (x : Cx) : (x.1 = p ∧ x.2.1 = n ∧ x.2.2.1 = d ∧ cxP p n d x = true) ∨ (cxP p n d x = false ∧ ((x.1.toList == p.toList) = false ∨ (x.1 = p ∧ (x.2.1.toList == n.toList) = false) ∨ (x.1 = p ∧ x.2.1 = n ∧ (x.2.2.1 == d) = false))) := by
  unfold cxP
  rcases str_cases x.1 p with h | h
  · rcases str_cases x.2.1 n with h2 | h2
    · by_cases hd : x.2.2.1 = d
      · exact .inl ⟨h, h2, hd, by simp [h, h2, hd]⟩
      · exact .inr ⟨by simp [hd], .inr (.inr ⟨h, h2, by rw [beq_eq_false_iff_ne]; exact hd⟩)⟩
    · exact .inr ⟨by simp [str_ne h2], .inr (.inl ⟨h, h2⟩)⟩
  · exact .inr ⟨by simp [str_ne h], .inl h⟩
def FndE (v : ByteArray) (b : Bool) (w : World) (e : Ending) (w' : World) : Prop := e = .returned (.tuple #[.string v, .bool b]) ∧ Below w.heap.size w w'
set_option maxRecDepth 100000 in
set_option maxHeartbeats 3200000 in
theorem rfind_any (E : Ev) (n : ByteArray) (d : Int) (w : World) (hin : E.In w) : Calls Tryz.prog 29 #[E.val, .string n, .int .i64 d] w (FndE (fndV E.fs n d) (fndB E.fs n d) w) := by
  obtain ⟨fA, fs, fc, cA, cs, cc⟩ := E
  have HB1 := belO w (.cells #[.slice fA fs.length fc, .slice cA cs.length cc] 38)
  have hC : Ev.Box (w.alloc (.cells #[.slice fA fs.length fc, .slice cA cs.length cc] 38)) w.heap.size ⟨fA, fs, fc, cA, cs, cc⟩ := Ev.Box.new w ⟨fA, fs, fc, cA, cs, cc⟩ 38
  have hI1 := hin.below HB1
  obtain ⟨w1, hw1⟩ : ∃ w1, w.alloc (.cells #[.slice fA fs.length fc, .slice cA cs.length cc] 38) = w1 := ⟨_, rfl⟩
  rw [hw1] at HB1 hC hI1
  have HB := Lib.hid HB1
  have HI := Lib.hid hI1
  have HC := Lib.hid hC
  have hfl : fs.length ≤ 140737488351232 := hin.fl
  have hcl : cs.length ≤ 140737488351232 := hin.cl
  obtain ⟨V, hV⟩ : ∃ V, fndV fs n d = V := ⟨_, rfl⟩
  obtain ⟨B, hB⟩ : ∃ B, fndB fs n d = B := ⟨_, rfl⟩
  have HX : Hid (∀ k (hk : k < fs.length), (∀ j, j < k → ∀ (h : j < fs.length), fxP n d fs[j] = false) → fxP n d fs[k] = true → V = fs[k].2.2 ∧ B = true) := fun k hk h g => by
    have e := find_at (fxP n d) fs k hk h g
    exact ⟨by rw [← hV]; unfold fndV; rw [e], by rw [← hB]; unfold fndB; rw [e]; rfl⟩
  have HX0 : Hid ((∀ j, ∀ (h : j < fs.length), fxP n d fs[j] = false) → V = ⟨#[]⟩ ∧ B = false) := fun h => by
    have e := find_no (fxP n d) fs h
    exact ⟨by rw [← hV]; unfold fndV; rw [e], by rw [← hB]; unfold fndB; rw [e]; rfl⟩
  show Calls Tryz.prog 29 #[.agg #[.slice fA fs.length fc, .slice cA cs.length cc], .string n, .int .i64 d] w (FndE (fndV fs n d) (fndB fs n d) w)
  rw [hV, hB]
  clear hV hB hin HB1 hI1 hC
  go_enter Tryz.func29, Tryz.ntmps29
  go_wp2_with (fail)
  clear hw1
  go_loopw [8] (fun i wr => ∃ k : Nat, k ≤ fs.length ∧ i = .int .i64 k ∧ Hid (∀ j, j < k → ∀ (h : j < fs.length), fxP n d fs[j] = false) ∧ Hid (Below w1.heap.size w1 wr)) (fun i _ => fs.length - (intOf i).toNat)
  case atStart => exact ⟨0, by omega, rfl, fun j h => by omega, Below.refl _ _⟩
  case round =>
    obtain ⟨k, hk, rfl, HJ, HW⟩ := hrel
    have b0 : wr.cell? ⟨w.heap.size, 0, none⟩ = some (.slice fA fs.length fc) := (HC.out.below HW.out).c0
    by_cases hlt : k < fs.length
    · obtain ⟨bb, o, eA, -, d0, d1, d2⟩ := (HI.out.below HW.out).f.fx hlt
      simp only at eA d0 d1 d2
      subst eA
      have HY := Lib.hid (HX.out k hlt HJ.out)
      have HJ2 : Hid (fxP n d fs[k] = false → ∀ j, j < k + 1 → ∀ (h : j < fs.length), fxP n d fs[j] = false) := fun g j hj h => by
        rcases Nat.lt_or_ge j k with q | q
        · exact HJ.out j q h
        · obtain rfl : j = k := by omega
          exact g
      have hc := fxP_cases n d fs[k]
      have hk1 : (k : Int) < (fs.length : Int) := by omega
      generalize fs[k] = x at *
      obtain ⟨xn, xd, xv⟩ := x
      simp only at d0 d1 d2 hc
      clear HX HX0 HJ HI
      rcases hc with ⟨rfl, rfl, hq⟩ | ⟨hq, hc⟩
      · obtain ⟨rfl, rfl⟩ := HY.out hq
        clear HY HJ2 hq
        go_wp2_with (fail)
        go_ret2
        exact ⟨rfl, btO HB.out HW.out⟩
      · have HJ3 := Lib.hid (HJ2.out hq)
        clear HY HJ2 hq
        rcases hc with hc | ⟨rfl, hc⟩
        all_goals
          go_wp2_with (fail)
          go_roundw
          case rel => exact ⟨k + 1, by omega, by go_num, HJ3, HW⟩
          case measure => simp [intOf]; omega
    · obtain rfl : k = fs.length := by omega
      obtain ⟨rfl, rfl⟩ := HX0.out (fun j h => HJ.out j h h)
      clear HX HX0 HJ
      go_wp2_with (fail)
      go_ret2
      exact ⟨rfl, btO HB.out HW.out⟩
set_option maxRecDepth 100000 in
set_option maxHeartbeats 3200000 in
theorem rchosen_any (E : Ev) (p n : ByteArray) (d : Int) (w : World) (hin : E.In w) : Calls Tryz.prog 33 #[E.val, .string p, .string n, .int .i64 d] w (BoolRO (chsB E.cs p n d) w) := by
  obtain ⟨fA, fs, fc, cA, cs, cc⟩ := E
  have HB1 := belO w (.cells #[.slice fA fs.length fc, .slice cA cs.length cc] 38)
  have hC : Ev.Box (w.alloc (.cells #[.slice fA fs.length fc, .slice cA cs.length cc] 38)) w.heap.size ⟨fA, fs, fc, cA, cs, cc⟩ := Ev.Box.new w ⟨fA, fs, fc, cA, cs, cc⟩ 38
  have hI1 := hin.below HB1
  obtain ⟨w1, hw1⟩ : ∃ w1, w.alloc (.cells #[.slice fA fs.length fc, .slice cA cs.length cc] 38) = w1 := ⟨_, rfl⟩
  rw [hw1] at HB1 hC hI1
  have HB := Lib.hid HB1
  have HI := Lib.hid hI1
  have HC := Lib.hid hC
  have hfl : fs.length ≤ 140737488351232 := hin.fl
  have hcl : cs.length ≤ 140737488351232 := hin.cl
  obtain ⟨V, hV⟩ : ∃ V, chsB cs p n d = V := ⟨_, rfl⟩
  have HX : Hid (∀ k (hk : k < cs.length), (∀ j, j < k → ∀ (h : j < cs.length), cxP p n d cs[j] = false) → cxP p n d cs[k] = true → V = cs[k].2.2.2) := fun k hk h g => by
    have e := find_at (cxP p n d) cs k hk h g
    rw [← hV]; unfold chsB; rw [e]
  have HX0 : Hid ((∀ j, ∀ (h : j < cs.length), cxP p n d cs[j] = false) → V = false) := fun h => by
    have e := find_no (cxP p n d) cs h
    rw [← hV]; unfold chsB; rw [e]
  show Calls Tryz.prog 33 #[.agg #[.slice fA fs.length fc, .slice cA cs.length cc], .string p, .string n, .int .i64 d] w (BoolRO (chsB cs p n d) w)
  rw [hV]
  clear hV hin HB1 hI1 hC
  go_enter Tryz.func33, Tryz.ntmps33
  go_wp2_with (fail)
  clear hw1
  go_loopw [9] (fun i wr => ∃ k : Nat, k ≤ cs.length ∧ i = .int .i64 k ∧ Hid (∀ j, j < k → ∀ (h : j < cs.length), cxP p n d cs[j] = false) ∧ Hid (Below w1.heap.size w1 wr)) (fun i _ => cs.length - (intOf i).toNat)
  case atStart => exact ⟨0, by omega, rfl, fun j h => by omega, Below.refl _ _⟩
  case round =>
    obtain ⟨k, hk, rfl, HJ, HW⟩ := hrel
    have b1 : wr.cell? ⟨w.heap.size, 1, none⟩ = some (.slice cA cs.length cc) := (HC.out.below HW.out).c1
    by_cases hlt : k < cs.length
    · obtain ⟨bb, o, eA, -, d0, d1, d2, d3⟩ := (HI.out.below HW.out).c.cx hlt
      simp only at eA d0 d1 d2 d3
      subst eA
      have HY := Lib.hid (HX.out k hlt HJ.out)
      have HJ2 : Hid (cxP p n d cs[k] = false → ∀ j, j < k + 1 → ∀ (h : j < cs.length), cxP p n d cs[j] = false) := fun g j hj h => by
        rcases Nat.lt_or_ge j k with q | q
        · exact HJ.out j q h
        · obtain rfl : j = k := by omega
          exact g
      have hc := cxP_cases p n d cs[k]
      have hk1 : (k : Int) < (cs.length : Int) := by omega
      generalize cs[k] = x at *
      obtain ⟨xp, xn, xd, xf⟩ := x
      simp only at d0 d1 d2 d3 hc
      have HB2 := Lib.hid (btO HW.out (belO wr (.cells #[.string xp, .string xn, .int .i64 xd, .bool xf] 47)))
      clear HX HX0 HJ HI
      rcases hc with ⟨rfl, rfl, rfl, hq⟩ | ⟨hq, hc⟩
      · obtain rfl := HY.out hq
        clear HY HJ2 hq
        go_wp2_with (fail)
        go_ret
        exact ⟨rfl, btO HB.out HB2.out⟩
      · have HJ3 := Lib.hid (HJ2.out hq)
        clear HY HJ2 hq
        rcases hc with hc | ⟨rfl, hc⟩ | ⟨rfl, rfl, hc⟩
        all_goals
          go_wp2_with (fail)
          go_roundw
          case rel => exact ⟨k + 1, by omega, by go_num, HJ3, HB2⟩
          case measure => simp [intOf]; omega
    · obtain rfl : k = cs.length := by omega
      obtain rfl := HX0.out (fun j h => HJ.out j h h)
      clear HX HX0 HJ
      go_wp2_with (fail)
      go_ret
      exact ⟨rfl, btO HB.out HW.out⟩
end Go.Proofs.YtbfimfjhdbpenaaGreatDoor
/- Layer 8: the value of an expression (plain). -/
namespace Go.Proofs.YtbfimfjhdbpenaaGreatDoor
open Go
section
variable (fs : List Fx) (day : Int) (r n : ByteArray) (d : Int) (A : Option Addr) (c : Nat)
end
end Go.Proofs.YtbfimfjhdbpenaaGreatDoor
/- Layer 8: Find, Chosen of the program. -/
namespace Go.Proofs.YtbfimfjhdbpenaaGreatDoor
open Go Go.RowKit Go.BigFrame
theorem sc3_row {w : World} {q : Nat} {a b c v1 v2 v3 : Value} {t : TypeId} (h : w.heap[q]? = some (.cells #[a, b, c] t (0, 0))) : (((w.setCell ⟨q, 0, none⟩ v1).setCell ⟨q, 1, none⟩ v2).setCell ⟨q, 2, none⟩ v3).heap[q]? = some (.cells #[v1, v2, v3] t (0, 0)) := by
  simp [World.setCell, Array.getElem?_modify, h]
theorem sc4_row {w : World} {q : Nat} {a b c d v1 v2 v3 v4 : Value} {t : TypeId} (h : w.heap[q]? = some (.cells #[a, b, c, d] t (0, 0))) : ((((w.setCell ⟨q, 0, none⟩ v1).setCell ⟨q, 1, none⟩ v2).setCell ⟨q, 2, none⟩ v3).setCell ⟨q, 3, none⟩ v4).heap[q]? = some (.cells #[v1, v2, v3, v4] t (0, 0)) := by
  simp [World.setCell, Array.getElem?_modify, h]
theorem sc3_bel {w : World} {q : Nat} {v1 v2 v3 : Value} : Below q w (((w.setCell ⟨q, 0, none⟩ v1).setCell ⟨q, 1, none⟩ v2).setCell ⟨q, 2, none⟩ v3) := ((((Below.refl q w).setCell (Nat.le_refl _) _).setCell (Nat.le_refl _) _).setCell (Nat.le_refl _) _)
theorem sc4_bel {w : World} {q : Nat} {v1 v2 v3 v4 : Value} : Below q w ((((w.setCell ⟨q, 0, none⟩ v1).setCell ⟨q, 1, none⟩ v2).setCell ⟨q, 2, none⟩ v3).setCell ⟨q, 3, none⟩ v4) := Below.setCell (p := ⟨q, 3, none⟩) sc3_bel (Nat.le_refl _) _
theorem row_cell {w : World} {q : Nat} {cs : Array Value} {t : TypeId} {j : Nat} {v : Value} (h : w.heap[q]? = some (.cells cs t (0, 0))) (hv : cs[j]? = some v) : w.cell? ⟨q, j, none⟩ = some v := by
  simp [World.cell?, h, hv]
theorem row_frz {w : World} {q : Nat} {cs : Array Value} {t : TypeId} {j : Nat} (h : w.heap[q]? = some (.cells cs t (0, 0))) : w.frozen? ⟨q, j, none⟩ = false := by
  simp [World.frozen?, h]
set_option maxRecDepth 100000 in
set_option maxHeartbeats 1600000 in
theorem closF_any (n : ByteArray) (d : Int) (x : Fx) (bn bd : Nat) (w : World) (kbn : w.cell? ⟨bn, 0, none⟩ = some (.string n)) (kbd : w.cell? ⟨bd, 0, none⟩ = some (.int .i64 d)) :
    Calls Tryz.prog 69 #[.agg #[.string x.1, .int .i64 x.2.1, .string x.2.2], .pointer (some ⟨bn, 0, none⟩), .pointer (some ⟨bd, 0, none⟩)] w (BoolRO (fxP n d x) w) := by
  obtain ⟨xn, xd, xv⟩ := x
  have HB1 := belO w (.cells #[.string xn, .int .i64 xd, .string xv] 44)
  obtain ⟨w1, hw1⟩ : ∃ w1, w.alloc (.cells #[.string xn, .int .i64 xd, .string xv] 44) = w1 := ⟨_, rfl⟩
  have c0 : w1.cell? ⟨w.heap.size, 0, none⟩ = some (.string xn) := by rw [← hw1, World.cell?_alloc_at _ _ _ _ rfl]; rfl
  have c1 : w1.cell? ⟨w.heap.size, 1, none⟩ = some (.int .i64 xd) := by rw [← hw1, World.cell?_alloc_at _ _ _ _ rfl]; rfl
  have c2 : w1.cell? ⟨w.heap.size, 2, none⟩ = some (.string xv) := by rw [← hw1, World.cell?_alloc_at _ _ _ _ rfl]; rfl
  rw [hw1] at HB1
  have jbn := cellO HB1 kbn
  have jbd := cellO HB1 kbd
  have HB := Lib.hid HB1
  have hc := fxP_cases n d (xn, xd, xv)
  simp only at hc ⊢
  clear HB1 kbn kbd
  rcases hc with ⟨rfl, rfl, hq⟩ | ⟨hq, hc⟩
  · rw [hq]
    clear hq
    go_enter Tryz.func69, Tryz.ntmps69
    go_wp2_with (fail)
    go_ret
    exact ⟨rfl, HB.out⟩
  · rw [hq]
    clear hq
    rcases hc with hc | ⟨rfl, hc⟩
    all_goals
      go_enter Tryz.func69, Tryz.ntmps69
      go_wp2_with (fail)
      go_ret
      exact ⟨rfl, HB.out⟩
def FstFR (o : Option Fx) (w : World) (e : Ending) (w' : World) : Prop := e = .returned (.tuple #[.agg (match o with | some x => (fxC x).toArray | none => #[.string ⟨#[]⟩, .int .i64 0, .string ⟨#[]⟩]), .bool o.isSome]) ∧ Below w.heap.size w w'
set_option maxRecDepth 100000 in
set_option maxHeartbeats 3200000 in
theorem firstF_any (n : ByteArray) (d : Int) (A : Option Addr) (c : Nat) (fs : List Fx) (bn bd : Nat) (w : World) (hA : RowsR w A 3 fxC fs) (hl : fs.length ≤ 140737488351232) (kbn : w.cell? ⟨bn, 0, none⟩ = some (.string n)) (kbd : w.cell? ⟨bd, 0, none⟩ = some (.int .i64 d)) :
    Calls Tryz.prog 68 #[.slice A fs.length c, .func (.func 69) #[] #[.pointer (some ⟨bn, 0, none⟩), .pointer (some ⟨bd, 0, none⟩)]] w (FstFR (fs.find? (fxP n d)) w) := by
  obtain ⟨O, hO⟩ : ∃ O, fs.find? (fxP n d) = O := ⟨_, rfl⟩
  have HX : Hid (∀ k (hk : k < fs.length), (∀ j, j < k → ∀ (h : j < fs.length), fxP n d fs[j] = false) → fxP n d fs[k] = true → O = some fs[k]) := fun k hk h g => by
    rw [← hO]; exact find_at (fxP n d) fs k hk h g
  have HX0 : Hid ((∀ j, ∀ (h : j < fs.length), fxP n d fs[j] = false) → O = none) := fun h => by rw [← hO]; exact find_no (fxP n d) fs h
  rw [hO]
  have HB1 := belO w (.cells #[.string ⟨#[]⟩, .int .i64 0, .string ⟨#[]⟩] 44)
  have hrow : (w.alloc (.cells #[.string ⟨#[]⟩, .int .i64 0, .string ⟨#[]⟩] 44)).heap[w.heap.size]? = some (.cells #[.string ⟨#[]⟩, .int .i64 0, .string ⟨#[]⟩] 44 (0, 0)) := heap_alloc_new w _
  obtain ⟨w1, hw1⟩ : ∃ w1, w.alloc (.cells #[.string ⟨#[]⟩, .int .i64 0, .string ⟨#[]⟩] 44) = w1 := ⟨_, rfl⟩
  rw [hw1] at HB1 hrow
  have HB := Lib.hid HB1
  have HA := Lib.hid (hA.below HB1)
  have HR := Lib.hid hrow
  have HCL := Lib.hid (fun (x : Fx) W (hW : Below w1.heap.size w1 W) => closF_any n d x bn bd W ((hW.cell (p := ⟨bn, 0, none⟩) (Nat.lt_of_lt_of_le (spot_none kbn).2 HB1.size)).trans (cellO HB1 kbn)) ((hW.cell (p := ⟨bd, 0, none⟩) (Nat.lt_of_lt_of_le (spot_none kbd).2 HB1.size)).trans (cellO HB1 kbd)))
  have hlt1 := lt_of_block hrow
  clear hO hA hrow kbn kbd HB1
  go_enter Tryz.func68, Tryz.ntmps68
  go_wp2_with (fail)
  clear hw1
  go_loopw [10] (fun i wr => ∃ k : Nat, k ≤ fs.length ∧ i = .int .i64 k ∧ Hid (∀ j, j < k → ∀ (h : j < fs.length), fxP n d fs[j] = false) ∧ Hid (Below w1.heap.size w1 wr)) (fun i _ => fs.length - (intOf i).toNat)
  case atStart => exact ⟨0, by omega, rfl, fun j h => by omega, Below.refl _ _⟩
  case round =>
    obtain ⟨k, hk, rfl, HJ, HW⟩ := hrel
    by_cases hlt : k < fs.length
    · obtain ⟨bb, o, eA, -, d0, d1, d2⟩ := RowsR.fx (HA.out.below HW.out) hlt
      subst eA
      have HY := Lib.hid (HX.out k hlt HJ.out)
      have HJ2 : Hid (fxP n d fs[k] = false → ∀ j, j < k + 1 → ∀ (h : j < fs.length), fxP n d fs[j] = false) := fun g j hj h => by
        rcases Nat.lt_or_ge j k with q | q
        · exact HJ.out j q h
        · obtain rfl : j = k := by omega
          exact g
      have hk1 : (k : Int) < (fs.length : Int) := by omega
      generalize fs[k] = x at *
      have HC1 := Lib.hid (HCL.out x)
      obtain ⟨xn, xd, xv⟩ := x
      simp only at d0 d1 d2 HC1
      have HBx := Lib.hid (belO wr (.cells #[.string xn, .int .i64 xd, .string xv] 44))
      have t0 : (wr.alloc (.cells #[.string xn, .int .i64 xd, .string xv] 44)).cell? ⟨wr.heap.size, 0, none⟩ = some (.string xn) := by rw [World.cell?_alloc_at _ _ _ _ rfl]; rfl
      have t1 : (wr.alloc (.cells #[.string xn, .int .i64 xd, .string xv] 44)).cell? ⟨wr.heap.size, 1, none⟩ = some (.int .i64 xd) := by rw [World.cell?_alloc_at _ _ _ _ rfl]; rfl
      have t2 : (wr.alloc (.cells #[.string xn, .int .i64 xd, .string xv] 44)).cell? ⟨wr.heap.size, 2, none⟩ = some (.string xv) := by rw [World.cell?_alloc_at _ _ _ _ rfl]; rfl
      have HW2 := Lib.hid (btO HW.out HBx.out)
      have HCx := Lib.hid (And.intro t0 (And.intro t1 (t2)))
      clear t0 t1 t2 HX HX0 HJ HA HCL
      cases hq : fxP n d (xn, xd, xv)
      · have HJ3 := Lib.hid (HJ2.out hq)
        rw [hq] at HC1
        clear HY HJ2 hq
        go_wp2_with (go_at_call 69; ((with_reducible refine (HC1.out _ HW2.out).mono ?_); rintro e w2 ⟨rfl, hb⟩; have HW3 := Lib.hid (btO HW2.out hb); clear hb))
        go_roundw
        case rel => exact ⟨k + 1, by omega, by go_num, HJ3, HW3⟩
        case measure => simp [intOf]; omega
      · obtain rfl := HY.out hq
        rw [hq] at HC1
        clear HY HJ2 hq
        go_wp2_with (go_at_call 69; ((with_reducible refine (HC1.out _ HW2.out).mono ?_); rintro e w2 ⟨rfl, hb⟩; have HW3 := Lib.hid (btO HW2.out hb); obtain ⟨t0, t1, t2⟩ := HCx.out; have u0 := cellO hb t0; have u1 := cellO hb t1; have u2 := cellO hb t2; have HR2 := Lib.hid ((HW3.out.block _ hlt1).trans HR.out); have r0 := row_cell (j := 0) HR2.out rfl; have f0 := row_frz (j := 0) HR2.out; have r1 := row_cell (j := 1) HR2.out rfl; have f1 := row_frz (j := 1) HR2.out; have r2 := row_cell (j := 2) HR2.out rfl; have f2 := row_frz (j := 2) HR2.out; clear hb t0 t1 t2))
        refine bodyPost_ret (v := .tuple #[.agg #[.string xn, .int .i64 xd, .string xv], .bool true]) (results_cell_tmp rfl _ _ w.heap.size 44 _ (0, 0) _ (.bool true) rfl rfl (sc3_row HR2.out) Tryz.underlying44 (by kernel_rfl) (by kernel_rfl)) rfl ?_
        exact ⟨rfl, btO (btO HB.out HW3.out) (Below.refl _ _) |>.trans (sc3_bel)⟩
    · obtain rfl : k = fs.length := by omega
      obtain rfl := HX0.out (fun j h => HJ.out j h h)
      have HR2 := Lib.hid ((HW.out.block _ hlt1).trans HR.out)
      have r0 := row_cell (j := 0) HR2.out rfl
      have f0 := row_frz (j := 0) HR2.out
      have r1 := row_cell (j := 1) HR2.out rfl
      have f1 := row_frz (j := 1) HR2.out
      have r2 := row_cell (j := 2) HR2.out rfl
      have f2 := row_frz (j := 2) HR2.out
      clear HX HX0 HJ
      go_wp2_with (fail)
      refine bodyPost_ret (v := .tuple #[.agg #[.string ⟨#[]⟩, .int .i64 0, .string ⟨#[]⟩], .bool false]) (results_cell_tmp rfl _ _ w.heap.size 44 _ (0, 0) _ (.bool false) rfl rfl (sc3_row HR2.out) Tryz.underlying44 (by kernel_rfl) (by kernel_rfl)) rfl ?_
      exact ⟨rfl, (btO HB.out HW.out).trans (sc3_bel)⟩
set_option maxRecDepth 100000 in
set_option maxHeartbeats 1600000 in
theorem closC_any (p n : ByteArray) (d : Int) (x : Cx) (bp bn bd : Nat) (w : World) (kbp : w.cell? ⟨bp, 0, none⟩ = some (.string p)) (kbn : w.cell? ⟨bn, 0, none⟩ = some (.string n)) (kbd : w.cell? ⟨bd, 0, none⟩ = some (.int .i64 d)) :
    Calls Tryz.prog 71 #[.agg #[.string x.1, .string x.2.1, .int .i64 x.2.2.1, .bool x.2.2.2], .pointer (some ⟨bp, 0, none⟩), .pointer (some ⟨bn, 0, none⟩), .pointer (some ⟨bd, 0, none⟩)] w (BoolRO (cxP p n d x) w) := by
  obtain ⟨xp, xn, xd, xf⟩ := x
  have HB1 := belO w (.cells #[.string xp, .string xn, .int .i64 xd, .bool xf] 47)
  obtain ⟨w1, hw1⟩ : ∃ w1, w.alloc (.cells #[.string xp, .string xn, .int .i64 xd, .bool xf] 47) = w1 := ⟨_, rfl⟩
  have c0 : w1.cell? ⟨w.heap.size, 0, none⟩ = some (.string xp) := by rw [← hw1, World.cell?_alloc_at _ _ _ _ rfl]; rfl
  have c1 : w1.cell? ⟨w.heap.size, 1, none⟩ = some (.string xn) := by rw [← hw1, World.cell?_alloc_at _ _ _ _ rfl]; rfl
  have c2 : w1.cell? ⟨w.heap.size, 2, none⟩ = some (.int .i64 xd) := by rw [← hw1, World.cell?_alloc_at _ _ _ _ rfl]; rfl
  have c3 : w1.cell? ⟨w.heap.size, 3, none⟩ = some (.bool xf) := by rw [← hw1, World.cell?_alloc_at _ _ _ _ rfl]; rfl
  rw [hw1] at HB1
  have jbp := cellO HB1 kbp
  have jbn := cellO HB1 kbn
  have jbd := cellO HB1 kbd
  have HB := Lib.hid HB1
  have hc := cxP_cases p n d (xp, xn, xd, xf)
  simp only at hc ⊢
  clear HB1 kbp kbn kbd
  rcases hc with ⟨rfl, rfl, rfl, hq⟩ | ⟨hq, hc⟩
  · rw [hq]
    clear hq
    go_enter Tryz.func71, Tryz.ntmps71
    go_wp2_with (fail)
    go_ret
    exact ⟨rfl, HB.out⟩
  · rw [hq]
    clear hq
    rcases hc with hc | ⟨rfl, hc⟩ | ⟨rfl, rfl, hc⟩
    all_goals
      go_enter Tryz.func71, Tryz.ntmps71
      go_wp2_with (fail)
      go_ret
      exact ⟨rfl, HB.out⟩
def FstCR (o : Option Cx) (w : World) (e : Ending) (w' : World) : Prop := e = .returned (.tuple #[.agg (match o with | some x => (cxC x).toArray | none => #[.string ⟨#[]⟩, .string ⟨#[]⟩, .int .i64 0, .bool false]), .bool o.isSome]) ∧ Below w.heap.size w w'
set_option maxRecDepth 100000 in
set_option maxHeartbeats 3200000 in
theorem firstC_any (p n : ByteArray) (d : Int) (A : Option Addr) (c : Nat) (cs : List Cx) (bp bn bd : Nat) (w : World) (hA : RowsR w A 4 cxC cs) (hl : cs.length ≤ 140737488351232) (kbp : w.cell? ⟨bp, 0, none⟩ = some (.string p)) (kbn : w.cell? ⟨bn, 0, none⟩ = some (.string n)) (kbd : w.cell? ⟨bd, 0, none⟩ = some (.int .i64 d)) :
    Calls Tryz.prog 70 #[.slice A cs.length c, .func (.func 71) #[] #[.pointer (some ⟨bp, 0, none⟩), .pointer (some ⟨bn, 0, none⟩), .pointer (some ⟨bd, 0, none⟩)]] w (FstCR (cs.find? (cxP p n d)) w) := by
  obtain ⟨O, hO⟩ : ∃ O, cs.find? (cxP p n d) = O := ⟨_, rfl⟩
  have HX : Hid (∀ k (hk : k < cs.length), (∀ j, j < k → ∀ (h : j < cs.length), cxP p n d cs[j] = false) → cxP p n d cs[k] = true → O = some cs[k]) := fun k hk h g => by
    rw [← hO]; exact find_at (cxP p n d) cs k hk h g
  have HX0 : Hid ((∀ j, ∀ (h : j < cs.length), cxP p n d cs[j] = false) → O = none) := fun h => by rw [← hO]; exact find_no (cxP p n d) cs h
  rw [hO]
  have HB1 := belO w (.cells #[.string ⟨#[]⟩, .string ⟨#[]⟩, .int .i64 0, .bool false] 47)
  have hrow : (w.alloc (.cells #[.string ⟨#[]⟩, .string ⟨#[]⟩, .int .i64 0, .bool false] 47)).heap[w.heap.size]? = some (.cells #[.string ⟨#[]⟩, .string ⟨#[]⟩, .int .i64 0, .bool false] 47 (0, 0)) := heap_alloc_new w _
  obtain ⟨w1, hw1⟩ : ∃ w1, w.alloc (.cells #[.string ⟨#[]⟩, .string ⟨#[]⟩, .int .i64 0, .bool false] 47) = w1 := ⟨_, rfl⟩
  rw [hw1] at HB1 hrow
  have HB := Lib.hid HB1
  have HA := Lib.hid (hA.below HB1)
  have HR := Lib.hid hrow
  have HCL := Lib.hid (fun (x : Cx) W (hW : Below w1.heap.size w1 W) => closC_any p n d x bp bn bd W ((hW.cell (p := ⟨bp, 0, none⟩) (Nat.lt_of_lt_of_le (spot_none kbp).2 HB1.size)).trans (cellO HB1 kbp)) ((hW.cell (p := ⟨bn, 0, none⟩) (Nat.lt_of_lt_of_le (spot_none kbn).2 HB1.size)).trans (cellO HB1 kbn)) ((hW.cell (p := ⟨bd, 0, none⟩) (Nat.lt_of_lt_of_le (spot_none kbd).2 HB1.size)).trans (cellO HB1 kbd)))
  have hlt1 := lt_of_block hrow
  clear hO hA hrow kbp kbn kbd HB1
  go_enter Tryz.func70, Tryz.ntmps70
  go_wp2_with (fail)
  clear hw1
  go_loopw [10] (fun i wr => ∃ k : Nat, k ≤ cs.length ∧ i = .int .i64 k ∧ Hid (∀ j, j < k → ∀ (h : j < cs.length), cxP p n d cs[j] = false) ∧ Hid (Below w1.heap.size w1 wr)) (fun i _ => cs.length - (intOf i).toNat)
  case atStart => exact ⟨0, by omega, rfl, fun j h => by omega, Below.refl _ _⟩
  case round =>
    obtain ⟨k, hk, rfl, HJ, HW⟩ := hrel
    by_cases hlt : k < cs.length
    · obtain ⟨bb, o, eA, -, d0, d1, d2, d3⟩ := RowsR.cx (HA.out.below HW.out) hlt
      subst eA
      have HY := Lib.hid (HX.out k hlt HJ.out)
      have HJ2 : Hid (cxP p n d cs[k] = false → ∀ j, j < k + 1 → ∀ (h : j < cs.length), cxP p n d cs[j] = false) := fun g j hj h => by
        rcases Nat.lt_or_ge j k with q | q
        · exact HJ.out j q h
        · obtain rfl : j = k := by omega
          exact g
      have hk1 : (k : Int) < (cs.length : Int) := by omega
      generalize cs[k] = x at *
      have HC1 := Lib.hid (HCL.out x)
      obtain ⟨xp, xn, xd, xf⟩ := x
      simp only at d0 d1 d2 d3 HC1
      have HBx := Lib.hid (belO wr (.cells #[.string xp, .string xn, .int .i64 xd, .bool xf] 47))
      have t0 : (wr.alloc (.cells #[.string xp, .string xn, .int .i64 xd, .bool xf] 47)).cell? ⟨wr.heap.size, 0, none⟩ = some (.string xp) := by rw [World.cell?_alloc_at _ _ _ _ rfl]; rfl
      have t1 : (wr.alloc (.cells #[.string xp, .string xn, .int .i64 xd, .bool xf] 47)).cell? ⟨wr.heap.size, 1, none⟩ = some (.string xn) := by rw [World.cell?_alloc_at _ _ _ _ rfl]; rfl
      have t2 : (wr.alloc (.cells #[.string xp, .string xn, .int .i64 xd, .bool xf] 47)).cell? ⟨wr.heap.size, 2, none⟩ = some (.int .i64 xd) := by rw [World.cell?_alloc_at _ _ _ _ rfl]; rfl
      have t3 : (wr.alloc (.cells #[.string xp, .string xn, .int .i64 xd, .bool xf] 47)).cell? ⟨wr.heap.size, 3, none⟩ = some (.bool xf) := by rw [World.cell?_alloc_at _ _ _ _ rfl]; rfl
      have HW2 := Lib.hid (btO HW.out HBx.out)
      have HCx := Lib.hid (And.intro t0 (And.intro t1 (And.intro t2 (t3))))
      clear t0 t1 t2 t3 HX HX0 HJ HA HCL
      cases hq : cxP p n d (xp, xn, xd, xf)
      · have HJ3 := Lib.hid (HJ2.out hq)
        rw [hq] at HC1
        clear HY HJ2 hq
        go_wp2_with (go_at_call 71; ((with_reducible refine (HC1.out _ HW2.out).mono ?_); rintro e w2 ⟨rfl, hb⟩; have HW3 := Lib.hid (btO HW2.out hb); clear hb))
        go_roundw
        case rel => exact ⟨k + 1, by omega, by go_num, HJ3, HW3⟩
        case measure => simp [intOf]; omega
      · obtain rfl := HY.out hq
        rw [hq] at HC1
        clear HY HJ2 hq
        go_wp2_with (go_at_call 71; ((with_reducible refine (HC1.out _ HW2.out).mono ?_); rintro e w2 ⟨rfl, hb⟩; have HW3 := Lib.hid (btO HW2.out hb); obtain ⟨t0, t1, t2, t3⟩ := HCx.out; have u0 := cellO hb t0; have u1 := cellO hb t1; have u2 := cellO hb t2; have u3 := cellO hb t3; have HR2 := Lib.hid ((HW3.out.block _ hlt1).trans HR.out); have r0 := row_cell (j := 0) HR2.out rfl; have f0 := row_frz (j := 0) HR2.out; have r1 := row_cell (j := 1) HR2.out rfl; have f1 := row_frz (j := 1) HR2.out; have r2 := row_cell (j := 2) HR2.out rfl; have f2 := row_frz (j := 2) HR2.out; have r3 := row_cell (j := 3) HR2.out rfl; have f3 := row_frz (j := 3) HR2.out; clear hb t0 t1 t2 t3))
        refine bodyPost_ret (v := .tuple #[.agg #[.string xp, .string xn, .int .i64 xd, .bool xf], .bool true]) (results_cell_tmp rfl _ _ w.heap.size 47 _ (0, 0) _ (.bool true) rfl rfl (sc4_row HR2.out) Tryz.underlying47 (by kernel_rfl) (by kernel_rfl)) rfl ?_
        exact ⟨rfl, btO (btO HB.out HW3.out) (Below.refl _ _) |>.trans (sc4_bel)⟩
    · obtain rfl : k = cs.length := by omega
      obtain rfl := HX0.out (fun j h => HJ.out j h h)
      have HR2 := Lib.hid ((HW.out.block _ hlt1).trans HR.out)
      have r0 := row_cell (j := 0) HR2.out rfl
      have f0 := row_frz (j := 0) HR2.out
      have r1 := row_cell (j := 1) HR2.out rfl
      have f1 := row_frz (j := 1) HR2.out
      have r2 := row_cell (j := 2) HR2.out rfl
      have f2 := row_frz (j := 2) HR2.out
      have r3 := row_cell (j := 3) HR2.out rfl
      have f3 := row_frz (j := 3) HR2.out
      clear HX HX0 HJ
      go_wp2_with (fail)
      refine bodyPost_ret (v := .tuple #[.agg #[.string ⟨#[]⟩, .string ⟨#[]⟩, .int .i64 0, .bool false], .bool false]) (results_cell_tmp rfl _ _ w.heap.size 47 _ (0, 0) _ (.bool false) rfl rfl (sc4_row HR2.out) Tryz.underlying47 (by kernel_rfl) (by kernel_rfl)) rfl ?_
      exact ⟨rfl, (btO HB.out HW.out).trans (sc4_bel)⟩
set_option maxRecDepth 100000 in
set_option maxHeartbeats 3200000 in
theorem pfind_anyO (E : Ev) (n : ByteArray) (d : Int) (w : World) (hin : E.In w) : Calls Tryz.prog 28 #[E.val, .string n, .int .i64 d] w (FndE (fndV E.fs n d) (fndB E.fs n d) w) := by
  obtain ⟨fA, fs, fc, cA, cs, cc⟩ := E
  have hI := hin.f
  have hl := hin.fl
  show Calls Tryz.prog 28 #[.agg #[.slice fA fs.length fc, .slice cA cs.length cc], .string n, .int .i64 d] w (FndE (fndV fs n d) (fndB fs n d) w)
  simp only at hI hl
  have HB1 := belO w (.cells #[.slice fA fs.length fc, .slice cA cs.length cc] 38)
  obtain ⟨w1, hw1⟩ : ∃ w1, w.alloc (.cells #[.slice fA fs.length fc, .slice cA cs.length cc] 38) = w1 := ⟨_, rfl⟩
  have hs1 : w1.heap.size = w.heap.size + 1 := by rw [← hw1, World.size_alloc]
  have a0 : w1.cell? ⟨w.heap.size, 0, none⟩ = some (.slice fA fs.length fc) := by rw [← hw1, World.cell?_alloc_at _ _ _ _ rfl]; rfl
  rw [hw1] at HB1
  have HB2 := belO w1 (.cells #[.string n] 9)
  obtain ⟨w2, hw2⟩ : ∃ w2, w1.alloc (.cells #[.string n] 9) = w2 := ⟨_, rfl⟩
  have hs2 : w2.heap.size = w.heap.size + 1 + 1 := by rw [← hw2, World.size_alloc, hs1]
  have b0 : w2.cell? ⟨w.heap.size + 1, 0, none⟩ = some (.string n) := by rw [← hw2, World.cell?_alloc_at _ _ _ _ hs1.symm]; rfl
  rw [hw2] at HB2
  have HB3 := belO w2 (.cells #[.int .i64 d] 3)
  obtain ⟨w3, hw3⟩ : ∃ w3, w2.alloc (.cells #[.int .i64 d] 3) = w3 := ⟨_, rfl⟩
  have c0 : w3.cell? ⟨w.heap.size + 1 + 1, 0, none⟩ = some (.int .i64 d) := by rw [← hw3, World.cell?_alloc_at _ _ _ _ hs2.symm]; rfl
  rw [hw3] at HB3
  have a1 := cellO HB3 (cellO HB2 a0)
  have b1 := cellO HB3 b0
  have HBB := btO (btO HB1 HB2) HB3
  have HF := Lib.hid (firstF_any n d fA fc fs (w.heap.size + 1) (w.heap.size + 1 + 1) w3 (hI.below HBB) hl b1 c0)
  have HB := Lib.hid HBB
  clear hin hI hl HB1 HB2 HB3 a0 b0 HBB
  unfold fndV fndB
  generalize fs.find? (fxP n d) = O at *
  cases O with
  | none =>
    go_enter Tryz.func28, Tryz.ntmps28
    go_wp2_with (go_at_call 68; ((with_reducible refine HF.out.mono ?_); rintro e w4 ⟨rfl, hb⟩; have HY := Lib.hid (btO HB.out hb); clear hb))
    go_ret2
    exact ⟨rfl, btO HY.out (belO _ _)⟩
  | some x =>
    obtain ⟨xn, xd, xv⟩ := x
    have HF2 : Hid (Calls Tryz.prog 68 #[.slice fA fs.length fc, .func (.func 69) #[] #[.pointer (some ⟨w.heap.size + 1, 0, none⟩), .pointer (some ⟨w.heap.size + 1 + 1, 0, none⟩)]] w3 fun e w' => e = .returned (.tuple #[.agg #[.string xn, .int .i64 xd, .string xv], .bool true]) ∧ Below w3.heap.size w3 w') := HF.out
    replace HF := HF2
    go_enter Tryz.func28, Tryz.ntmps28
    go_wp2_with (go_at_call 68; ((with_reducible refine HF.out.mono ?_); rintro e w4 ⟨rfl, hb⟩; have HY := Lib.hid (btO HB.out hb); clear hb))
    go_ret2
    exact ⟨rfl, btO HY.out (belO _ _)⟩
set_option maxRecDepth 100000 in
set_option maxHeartbeats 3200000 in
theorem pchosen_anyO (E : Ev) (p n : ByteArray) (d : Int) (w : World) (hin : E.In w) : Calls Tryz.prog 32 #[E.val, .string p, .string n, .int .i64 d] w (BoolRO (chsB E.cs p n d) w) := by
  obtain ⟨fA, fs, fc, cA, cs, cc⟩ := E
  have hI := hin.c
  have hl := hin.cl
  show Calls Tryz.prog 32 #[.agg #[.slice fA fs.length fc, .slice cA cs.length cc], .string p, .string n, .int .i64 d] w (BoolRO (chsB cs p n d) w)
  simp only at hI hl
  have HB1 := belO w (.cells #[.slice fA fs.length fc, .slice cA cs.length cc] 38)
  obtain ⟨w1, hw1⟩ : ∃ w1, w.alloc (.cells #[.slice fA fs.length fc, .slice cA cs.length cc] 38) = w1 := ⟨_, rfl⟩
  have hs1 : w1.heap.size = w.heap.size + 1 := by rw [← hw1, World.size_alloc]
  have a0 : w1.cell? ⟨w.heap.size, 1, none⟩ = some (.slice cA cs.length cc) := by rw [← hw1, World.cell?_alloc_at _ _ _ _ rfl]; rfl
  rw [hw1] at HB1
  have HB2 := belO w1 (.cells #[.string p] 9)
  obtain ⟨w2, hw2⟩ : ∃ w2, w1.alloc (.cells #[.string p] 9) = w2 := ⟨_, rfl⟩
  have hs2 : w2.heap.size = w.heap.size + 1 + 1 := by rw [← hw2, World.size_alloc, hs1]
  have b0 : w2.cell? ⟨w.heap.size + 1, 0, none⟩ = some (.string p) := by rw [← hw2, World.cell?_alloc_at _ _ _ _ hs1.symm]; rfl
  rw [hw2] at HB2
  have HB3 := belO w2 (.cells #[.string n] 9)
  obtain ⟨w3, hw3⟩ : ∃ w3, w2.alloc (.cells #[.string n] 9) = w3 := ⟨_, rfl⟩
  have hs3 : w3.heap.size = w.heap.size + 1 + 1 + 1 := by rw [← hw3, World.size_alloc, hs2]
  have c0 : w3.cell? ⟨w.heap.size + 1 + 1, 0, none⟩ = some (.string n) := by rw [← hw3, World.cell?_alloc_at _ _ _ _ hs2.symm]; rfl
  rw [hw3] at HB3
  have HB4 := belO w3 (.cells #[.int .i64 d] 3)
  obtain ⟨w5, hw5⟩ : ∃ w5, w3.alloc (.cells #[.int .i64 d] 3) = w5 := ⟨_, rfl⟩
  have d0 : w5.cell? ⟨w.heap.size + 1 + 1 + 1, 0, none⟩ = some (.int .i64 d) := by rw [← hw5, World.cell?_alloc_at _ _ _ _ hs3.symm]; rfl
  rw [hw5] at HB4
  have a1 := cellO HB4 (cellO HB3 (cellO HB2 a0))
  have b1 := cellO HB4 (cellO HB3 b0)
  have c1 := cellO HB4 c0
  have HBB := btO (btO (btO HB1 HB2) HB3) HB4
  have HF := Lib.hid (firstC_any p n d cA cc cs (w.heap.size + 1) (w.heap.size + 1 + 1) (w.heap.size + 1 + 1 + 1) w5 (hI.below HBB) hl b1 c1 d0)
  have HB := Lib.hid HBB
  clear hin hI hl HB1 HB2 HB3 HB4 a0 b0 c0 HBB
  unfold chsB
  generalize cs.find? (cxP p n d) = O at *
  cases O with
  | none =>
    go_enter Tryz.func32, Tryz.ntmps32
    go_wp2_with (go_at_call 70; ((with_reducible refine HF.out.mono ?_); rintro e w4 ⟨rfl, hb⟩; have HY := Lib.hid (btO HB.out hb); clear hb))
    go_ret
    exact ⟨rfl, btO HY.out (belO _ _)⟩
  | some x =>
    obtain ⟨xp, xn, xd, xf⟩ := x
    have HF2 : Hid (Calls Tryz.prog 70 #[.slice cA cs.length cc, .func (.func 71) #[] #[.pointer (some ⟨w.heap.size + 1, 0, none⟩), .pointer (some ⟨w.heap.size + 1 + 1, 0, none⟩), .pointer (some ⟨w.heap.size + 1 + 1 + 1, 0, none⟩)]] w5 fun e w' => e = .returned (.tuple #[.agg #[.string xp, .string xn, .int .i64 xd, .bool xf], .bool true]) ∧ Below w5.heap.size w5 w') := HF.out
    replace HF := HF2
    go_enter Tryz.func32, Tryz.ntmps32
    go_wp2_with (go_at_call 70; ((with_reducible refine HF.out.mono ?_); rintro e w4 ⟨rfl, hb⟩; have HY := Lib.hid (btO HB.out hb); clear hb))
    go_ret
    exact ⟨rfl, btO HY.out (belO _ _)⟩
end Go.Proofs.YtbfimfjhdbpenaaGreatDoor
/- Layer 8: Valued and Held of the reference: a theorem for each way. -/
namespace Go.Proofs.YtbfimfjhdbpenaaGreatDoor
open Go Go.RowKit Go.BigFrame
section
variable {Q : Nat} {k : Int} {r n : ByteArray} {d : Int} {A : Option Addr} {l c : Nat} {fA : Option Addr} {fl fc : Nat} {cA : Option Addr} {cl cc : Nat}
end
end Go.Proofs.YtbfimfjhdbpenaaGreatDoor
/- Layer 8: Valued of the reference, on each way. -/
namespace Go.Proofs.YtbfimfjhdbpenaaGreatDoor
open Go Go.RowKit Go.BigFrame
end Go.Proofs.YtbfimfjhdbpenaaGreatDoor
/- Layer 8: Held of the reference, on each way. -/
namespace Go.Proofs.YtbfimfjhdbpenaaGreatDoor
open Go Go.RowKit Go.BigFrame
end Go.Proofs.YtbfimfjhdbpenaaGreatDoor
/- Layer 8: Valued of the reference, on each way: two numbers. -/
namespace Go.Proofs.YtbfimfjhdbpenaaGreatDoor
open Go Go.RowKit Go.BigFrame
end Go.Proofs.YtbfimfjhdbpenaaGreatDoor
/- Layer 8: Valued and Held of the reference. -/
namespace Go.Proofs.YtbfimfjhdbpenaaGreatDoor
open Go Go.RowKit
end Go.Proofs.YtbfimfjhdbpenaaGreatDoor

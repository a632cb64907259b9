/- Joined: ObK, ObK1, ObK2, ObK3, ObK4, ObK5, ObL, ObR, ObS, ObT, ObU, OeA, ObV, OeB, OeB1, OeB2, OeB3, OeB4. -/
import Derived.Test.YtbfimfjhdbpenaaGreatDoorPl18
import Derived.Test.YtbfimfjhdbpenaaGreatDoorPl20
import Derived.Test.YtbfimfjhdbpenaaGreatDoorPl21
import Derived.Test.YtbfimfjhdbpenaaGreatDoorPl17
import Derived.Deep.CutRange
/- Layer 8: Sort of the reference. -/
namespace Go.Proofs.YtbfimfjhdbpenaaGreatDoor
open Go Go.RowKit Go.BigFrame
def i64V (x : Int) : Value := .int .i64 x
theorem own_belO {w w' : World} {base : Nat} {e : TypeId} {size : Nat} {v : Value} {n : Nat} {xs : List Value} (h : w.ownsRow base e size v n xs) (b : Below w.heap.size w w') : w'.ownsRow base e size v n xs := by
  refine ⟨h.1, ?_⟩
  rcases h.2 with h0 | ⟨g, cap, cur, hv, hg, hh, r⟩
  · exact .inl h0
  · exact .inr ⟨g, cap, cur, hv, hg, (b.block _ (lt_of_block hh)).trans hh, r⟩
theorem srtF_no {k : Int} {r n : ByteArray} {d : Int} {l : List Int} (h : ¬ (srtB k ≠ 0 ∧ fldB k r n d = true ∧ l = prtL k)) : srtF k r n d l = 0 := if_neg h
theorem srtF_ok {k : Int} {r n : ByteArray} {d : Int} {l : List Int} (h : srtB k ≠ 0 ∧ fldB k r n d = true ∧ l = prtL k) : srtF k r n d l = srtB k := if_pos h
end Go.Proofs.YtbfimfjhdbpenaaGreatDoor
/- Layer 8: Sort of the reference: kinds without parts. -/
namespace Go.Proofs.YtbfimfjhdbpenaaGreatDoor
open Go Go.RowKit Go.BigFrame
end Go.Proofs.YtbfimfjhdbpenaaGreatDoor
/- Layer 8: Sort of the reference: operations. -/
namespace Go.Proofs.YtbfimfjhdbpenaaGreatDoor
open Go Go.RowKit Go.BigFrame
end Go.Proofs.YtbfimfjhdbpenaaGreatDoor
/- Layer 8: Sort of the reference: comparisons. -/
namespace Go.Proofs.YtbfimfjhdbpenaaGreatDoor
open Go Go.RowKit Go.BigFrame
end Go.Proofs.YtbfimfjhdbpenaaGreatDoor
/- Layer 8: Sort of the reference: connectives. -/
namespace Go.Proofs.YtbfimfjhdbpenaaGreatDoor
open Go Go.RowKit Go.BigFrame
end Go.Proofs.YtbfimfjhdbpenaaGreatDoor
/- Layer 8: Sort of the reference. -/
namespace Go.Proofs.YtbfimfjhdbpenaaGreatDoor
open Go Go.RowKit Go.BigFrame
end Go.Proofs.YtbfimfjhdbpenaaGreatDoor
/- Layer 8: Check of the reference. -/
namespace Go.Proofs.YtbfimfjhdbpenaaGreatDoor
open Go Go.RowKit Go.BigFrame
end Go.Proofs.YtbfimfjhdbpenaaGreatDoor
/- Layer 8: cmp.Compare, cmp.Or; compareFixings, compareChoices of the program. -/
namespace Go.Proofs.YtbfimfjhdbpenaaGreatDoor
open Go Go.RowKit Go.BigFrame
set_option maxRecDepth 100000 in
theorem nanS_any (x : ByteArray) (w : World) : Calls Tryz.prog 139 #[.string x] w fun e w' => e = .returned (.bool false) ∧ w = w' := by
  go_enter Tryz.func139, Tryz.ntmps139
  go_wp2
  go_ret
  exact ⟨rfl, rfl⟩
set_option maxRecDepth 100000 in
theorem nanI_any (x : Int) (w : World) : Calls Tryz.prog 140 #[.int .i64 x] w fun e w' => e = .returned (.bool false) ∧ w = w' := by
  go_enter Tryz.func140, Tryz.ntmps140
  go_wp2
  go_ret
  exact ⟨rfl, rfl⟩
set_option maxRecDepth 100000 in
theorem pcmpS_any (x y : ByteArray) (w : World) : Calls Tryz.prog 100 #[.string x, .string y] w fun e w' => e = .returned (.int .i64 (cmS x.data.toList y.data.toList)) ∧ w = w' := by
  have HX := Lib.hid (fun W => nanS_any x W)
  have HY := Lib.hid (fun W => nanS_any y W)
  rcases str_ord x y with ⟨h0, h1, h2⟩ | ⟨rfl, h1⟩ | ⟨h0, h1, h2, h3⟩
  · rw [show cmS x.data.toList y.data.toList = -1 by unfold cmS; rw [h0]; rfl]
    clear h0
    go_enter Tryz.func100, Tryz.ntmps100
    go_wp2_with (first
      | (go_at_call 139; ((with_reducible refine (HX.out _).mono ?_); rintro e w1 ⟨rfl, rfl⟩))
      | (go_at_call 139; ((with_reducible refine (HY.out _).mono ?_); rintro e w1 ⟨rfl, rfl⟩)))
    go_ret
    exact ⟨rfl, rfl⟩
  · rw [show cmS x.data.toList x.data.toList = 0 by unfold cmS; rw [bl_irrefl]; rfl]
    go_enter Tryz.func100, Tryz.ntmps100
    go_wp2_with (first
      | (go_at_call 139; ((with_reducible refine (HX.out _).mono ?_); rintro e w1 ⟨rfl, rfl⟩)))
    go_ret
    exact ⟨rfl, rfl⟩
  · rw [show cmS x.data.toList y.data.toList = 1 by unfold cmS; rw [Lib.toList_data, Lib.toList_data] at h1; rw [show bl x.data.toList y.data.toList = false from h1, h0]; rfl]
    clear h0
    go_enter Tryz.func100, Tryz.ntmps100
    go_wp2_with (first
      | (go_at_call 139; ((with_reducible refine (HX.out _).mono ?_); rintro e w1 ⟨rfl, rfl⟩))
      | (go_at_call 139; ((with_reducible refine (HY.out _).mono ?_); rintro e w1 ⟨rfl, rfl⟩)))
    go_ret
    exact ⟨rfl, rfl⟩
set_option maxRecDepth 100000 in
theorem pcmpI_any (x y : Int) (w : World) : Calls Tryz.prog 101 #[.int .i64 x, .int .i64 y] w fun e w' => e = .returned (.int .i64 (cmI x y)) ∧ w = w' := by
  have HX := Lib.hid (fun W => nanI_any x W)
  have HY := Lib.hid (fun W => nanI_any y W)
  by_cases h1 : x < y
  · rw [show cmI x y = -1 by unfold cmI; rw [if_pos h1]]
    go_enter Tryz.func101, Tryz.ntmps101
    go_wp2_with (first
      | (go_at_call 140; ((with_reducible refine (HX.out _).mono ?_); rintro e w1 ⟨rfl, rfl⟩))
      | (go_at_call 140; ((with_reducible refine (HY.out _).mono ?_); rintro e w1 ⟨rfl, rfl⟩)))
    go_ret
    exact ⟨rfl, rfl⟩
  · by_cases h2 : y < x
    · rw [show cmI x y = 1 by unfold cmI; rw [if_neg h1, if_pos h2]]
      go_enter Tryz.func101, Tryz.ntmps101
      go_wp2_with (first
        | (go_at_call 140; ((with_reducible refine (HX.out _).mono ?_); rintro e w1 ⟨rfl, rfl⟩))
        | (go_at_call 140; ((with_reducible refine (HY.out _).mono ?_); rintro e w1 ⟨rfl, rfl⟩)))
      go_ret
      exact ⟨rfl, rfl⟩
    · rw [show cmI x y = 0 by unfold cmI; rw [if_neg h1, if_neg h2]]
      go_enter Tryz.func101, Tryz.ntmps101
      go_wp2_with (first
        | (go_at_call 140; ((with_reducible refine (HX.out _).mono ?_); rintro e w1 ⟨rfl, rfl⟩))
        | (go_at_call 140; ((with_reducible refine (HY.out _).mono ?_); rintro e w1 ⟨rfl, rfl⟩)))
      go_ret
      exact ⟨rfl, rfl⟩
def orL : List Int → Int
  | [] => 0
  | x :: l => orI x (orL l)
theorem orL_drop (l : List Int) (k : Nat) (h : ∀ j, j < k → ∀ (h : j < l.length), l[j] = 0) : orL l = orL (l.drop k) := by
  induction k with
  | zero => rfl
  | succ k ih =>
    rw [ih (fun j hj => h j (by omega))]
    rcases Nat.lt_or_ge k l.length with g | g
    · rw [List.drop_eq_getElem_cons g, orL, h k (by omega) g]; rfl
    · rw [List.drop_eq_nil_of_le g, List.drop_eq_nil_of_le (by omega)]
set_option maxRecDepth 100000 in
theorem cor_anyO (A : Option Addr) (c : Nat) (l : List Int) (hl : l.length ≤ 1000) (w : World) (hA : SlA i64V w A l) :
    Calls Tryz.prog 99 #[.slice A l.length c] w fun e w' => e = .returned (.int .i64 (orL l)) ∧ w = w' := by
  obtain ⟨R, hR⟩ : ∃ R, orL l = R := ⟨_, rfl⟩
  have HA := Lib.hid hA
  have HR := Lib.hid hR
  rw [hR]
  clear hA hR
  go_enter Tryz.func99, Tryz.ntmps99
  go_wp2
  go_loop [8] (fun i => ∃ k : Nat, k ≤ l.length ∧ i = .int .i64 k ∧ Hid (∀ j, j < k → ∀ (h : j < l.length), l[j] = 0)) (fun i => l.length - (intOf i).toNat)
  case atStart => exact ⟨0, by omega, rfl, fun j h => by omega⟩
  case round =>
    obtain ⟨k, hk, rfl, HI⟩ := hrel
    have ho := orL_drop l k HI.out
    by_cases hlt : k < l.length
    · obtain ⟨b, o, rfl, -, d0⟩ := HA.out.get hlt
      rw [List.drop_eq_getElem_cons hlt, orL, HR.out] at ho
      have HI2 : Hid (l[k] = 0 → ∀ j, j < k + 1 → ∀ (h : j < l.length), l[j] = 0) := fun g j hj h => by
        rcases Nat.lt_or_ge j k with q | q
        · exact HI.out j q h
        · obtain rfl : j = k := by omega
          exact g
      have hk1 : (k : Int) < (l.length : Int) := by omega
      have d1 : w.cell? ⟨b, o + k, none⟩ = some (.int .i64 l[k]) := d0
      clear HI HA HR d0
      generalize l[k] = x at *
      by_cases hx : x = 0
      · subst hx
        have HI3 := Lib.hid (HI2.out rfl)
        clear ho HI2
        go_wp2
        go_round
        case rel => exact ⟨k + 1, by omega, by go_num, HI3⟩
        case measure => simp [intOf]; omega
      · have hn : (x != 0) = true := by rw [bne_iff_ne]; exact hx
        have hn2 : (x == 0) = false := by rw [beq_eq_false_iff_ne]; exact hx
        obtain rfl : R = x := by rw [ho]; unfold orI; rw [if_neg hx]
        clear ho HI2 hx
        go_wp2
        go_ret
        exact ⟨rfl, rfl⟩
    · obtain rfl : k = l.length := by omega
      obtain rfl : R = 0 := by rw [← HR.out, ho, List.drop_length]; rfl
      clear ho HI HR
      go_wp2
      go_ret
      exact ⟨rfl, rfl⟩
end Go.Proofs.YtbfimfjhdbpenaaGreatDoor
/- Layer 8: compareFixings, compareChoices, isFixing, isChoice of the program. -/
namespace Go.Proofs.YtbfimfjhdbpenaaGreatDoor
open Go Go.RowKit Go.BigFrame
theorem orI_zero (x : Int) : orI x 0 = x := by unfold orI; split <;> simp_all
set_option maxRecDepth 100000 in
set_option maxHeartbeats 3200000 in
theorem compareFixings_any (n v n' v' : ByteArray) (d d' : Int) (w : World) : Calls Tryz.prog 56 #[.agg #[.string n, .int .i64 d, .string v], .agg #[.string n', .int .i64 d', .string v']] w (IntRO (cmK ([], n.data.toList, d) ([], n'.data.toList, d')) w) := by
  have HB1 := belO w (.cells #[.string n, .int .i64 d, .string v] 44)
  obtain ⟨w0, hw0⟩ : ∃ w0, w.alloc (.cells #[.string n, .int .i64 d, .string v] 44) = w0 := ⟨_, rfl⟩
  have hs0 : w0.heap.size = w.heap.size + 1 := by rw [← hw0, World.size_alloc]
  have a0 : w0.cell? ⟨w.heap.size, 0, none⟩ = some (.string n) := by rw [← hw0, World.cell?_alloc_at _ _ _ _ rfl]; rfl
  have a1 : w0.cell? ⟨w.heap.size, 1, none⟩ = some (.int .i64 d) := by rw [← hw0, World.cell?_alloc_at _ _ _ _ rfl]; rfl
  have a2 : w0.cell? ⟨w.heap.size, 2, none⟩ = some (.string v) := by rw [← hw0, World.cell?_alloc_at _ _ _ _ rfl]; rfl
  rw [hw0] at HB1
  have HB2 := belO w0 (.cells #[.string n', .int .i64 d', .string v'] 44)
  obtain ⟨w1, hw1⟩ : ∃ w1, w0.alloc (.cells #[.string n', .int .i64 d', .string v'] 44) = w1 := ⟨_, rfl⟩
  have b0 : w1.cell? ⟨w.heap.size + 1, 0, none⟩ = some (.string n') := by rw [← hw1, World.cell?_alloc_at _ _ _ _ hs0.symm]; rfl
  have b1 : w1.cell? ⟨w.heap.size + 1, 1, none⟩ = some (.int .i64 d') := by rw [← hw1, World.cell?_alloc_at _ _ _ _ hs0.symm]; rfl
  have b2 : w1.cell? ⟨w.heap.size + 1, 2, none⟩ = some (.string v') := by rw [← hw1, World.cell?_alloc_at _ _ _ _ hs0.symm]; rfl
  rw [hw1] at HB2
  have c0 := cellO HB2 a0
  have c1 := cellO HB2 a1
  have c2 := cellO HB2 a2
  have HB := Lib.hid (btO HB1 HB2)
  clear HB1 HB2 a0 a1 a2
  have H1 := Lib.hid (fun W => pcmpS_any n n' W)
  have H3 := Lib.hid (fun W => pcmpI_any d d' W)
  have HO : Hid (∀ (W : World) (t : TypeId), Calls Tryz.prog 99 #[.slice (some ⟨W.heap.size, 0, none⟩) 2 2] (W.alloc (.cells #[.int .i64 (cmS n.data.toList n'.data.toList), .int .i64 (cmI d d')] t)).drew fun e w' => e = .returned (.int .i64 (orL [(cmS n.data.toList n'.data.toList), (cmI d d')])) ∧ (W.alloc (.cells #[.int .i64 (cmS n.data.toList n'.data.toList), .int .i64 (cmI d d')] t)).drew = w') := fun W t => cor_anyO (some ⟨W.heap.size, 0, none⟩) 2 [(cmS n.data.toList n'.data.toList), (cmI d d')] (by simp) _ (SlA.of_cells (show (W.alloc _).drew.heap[W.heap.size]? = some _ from heap_alloc_new W _) rfl)
  obtain ⟨R, hR⟩ : ∃ R, (orL [(cmS n.data.toList n'.data.toList), (cmI d d')]) = R := ⟨_, rfl⟩
  have hK : cmK ([], n.data.toList, d) ([], n'.data.toList, d') = R := by rw [← hR]; rw [← cmK_fix]; simp only [orL, orI_zero]
  rw [hR] at HO
  rw [hK]
  clear hK hR
  go_enter Tryz.func56, Tryz.ntmps56
  go_wp2_with (fail)
  clear hw0 hw1 hs0
  go_region_held3 (fun w' => w'.cell? ⟨w.heap.size, 0, none⟩ = some (.string n) ∧ w'.cell? ⟨w.heap.size, 1, none⟩ = some (.int .i64 d) ∧ w'.cell? ⟨w.heap.size, 2, none⟩ = some (.string v) ∧ w'.cell? ⟨w.heap.size + 1, 0, none⟩ = some (.string n') ∧ w'.cell? ⟨w.heap.size + 1, 1, none⟩ = some (.int .i64 d') ∧ w'.cell? ⟨w.heap.size + 1, 2, none⟩ = some (.string v') ∧ Below w1.heap.size w1 w')
    (((try go_split_ands); (and_intros) <;> first
      | assumption | exact (Below.refl _ _).drew | exact ((Below.refl _ _).alloc (Nat.le_refl _) _).drew | exact ((Below.refl _ _).drew).alloc (Nat.le_refl _) _ | exact Below.drew (by assumption) | (go_keep; done)))
    (first
      | (go_split_ands; go_at_call 100; refine (H1.out _).mono ?_; rintro e w6 ⟨rfl, rfl⟩)
      | (go_split_ands; go_at_call 101; refine (H3.out _).mono ?_; rintro e w6 ⟨rfl, rfl⟩)
      | (go_split_ands; go_at_call 99; refine (HO.out _ _).mono ?_; rintro e w6 ⟨rfl, rfl⟩))
  go_wp2_with (fail)
  go_ret
  exact ⟨rfl, btO HB.out (Below.drew (belO _ _))⟩
set_option maxRecDepth 100000 in
set_option maxHeartbeats 3200000 in
theorem compareChoices_any (p n p' n' : ByteArray) (d d' : Int) (f f' : Bool) (w : World) : Calls Tryz.prog 59 #[.agg #[.string p, .string n, .int .i64 d, .bool f], .agg #[.string p', .string n', .int .i64 d', .bool f']] w (IntRO (cmK (p.data.toList, n.data.toList, d) (p'.data.toList, n'.data.toList, d')) w) := by
  have HB1 := belO w (.cells #[.string p, .string n, .int .i64 d, .bool f] 47)
  obtain ⟨w0, hw0⟩ : ∃ w0, w.alloc (.cells #[.string p, .string n, .int .i64 d, .bool f] 47) = w0 := ⟨_, rfl⟩
  have hs0 : w0.heap.size = w.heap.size + 1 := by rw [← hw0, World.size_alloc]
  have a0 : w0.cell? ⟨w.heap.size, 0, none⟩ = some (.string p) := by rw [← hw0, World.cell?_alloc_at _ _ _ _ rfl]; rfl
  have a1 : w0.cell? ⟨w.heap.size, 1, none⟩ = some (.string n) := by rw [← hw0, World.cell?_alloc_at _ _ _ _ rfl]; rfl
  have a2 : w0.cell? ⟨w.heap.size, 2, none⟩ = some (.int .i64 d) := by rw [← hw0, World.cell?_alloc_at _ _ _ _ rfl]; rfl
  have a3 : w0.cell? ⟨w.heap.size, 3, none⟩ = some (.bool f) := by rw [← hw0, World.cell?_alloc_at _ _ _ _ rfl]; rfl
  rw [hw0] at HB1
  have HB2 := belO w0 (.cells #[.string p', .string n', .int .i64 d', .bool f'] 47)
  obtain ⟨w1, hw1⟩ : ∃ w1, w0.alloc (.cells #[.string p', .string n', .int .i64 d', .bool f'] 47) = w1 := ⟨_, rfl⟩
  have b0 : w1.cell? ⟨w.heap.size + 1, 0, none⟩ = some (.string p') := by rw [← hw1, World.cell?_alloc_at _ _ _ _ hs0.symm]; rfl
  have b1 : w1.cell? ⟨w.heap.size + 1, 1, none⟩ = some (.string n') := by rw [← hw1, World.cell?_alloc_at _ _ _ _ hs0.symm]; rfl
  have b2 : w1.cell? ⟨w.heap.size + 1, 2, none⟩ = some (.int .i64 d') := by rw [← hw1, World.cell?_alloc_at _ _ _ _ hs0.symm]; rfl
  have b3 : w1.cell? ⟨w.heap.size + 1, 3, none⟩ = some (.bool f') := by rw [← hw1, World.cell?_alloc_at _ _ _ _ hs0.symm]; rfl
  rw [hw1] at HB2
  have c0 := cellO HB2 a0
  have c1 := cellO HB2 a1
  have c2 := cellO HB2 a2
  have c3 := cellO HB2 a3
  have HB := Lib.hid (btO HB1 HB2)
  clear HB1 HB2 a0 a1 a2 a3
  have H1 := Lib.hid (fun W => pcmpS_any p p' W)
  have H2 := Lib.hid (fun W => pcmpS_any n n' W)
  have H3 := Lib.hid (fun W => pcmpI_any d d' W)
  have HO : Hid (∀ (W : World) (t : TypeId), Calls Tryz.prog 99 #[.slice (some ⟨W.heap.size, 0, none⟩) 3 3] (W.alloc (.cells #[.int .i64 (cmS p.data.toList p'.data.toList), .int .i64 (cmS n.data.toList n'.data.toList), .int .i64 (cmI d d')] t)).drew fun e w' => e = .returned (.int .i64 (orL [(cmS p.data.toList p'.data.toList), (cmS n.data.toList n'.data.toList), (cmI d d')])) ∧ (W.alloc (.cells #[.int .i64 (cmS p.data.toList p'.data.toList), .int .i64 (cmS n.data.toList n'.data.toList), .int .i64 (cmI d d')] t)).drew = w') := fun W t => cor_anyO (some ⟨W.heap.size, 0, none⟩) 3 [(cmS p.data.toList p'.data.toList), (cmS n.data.toList n'.data.toList), (cmI d d')] (by simp) _ (SlA.of_cells (show (W.alloc _).drew.heap[W.heap.size]? = some _ from heap_alloc_new W _) rfl)
  obtain ⟨R, hR⟩ : ∃ R, (orL [(cmS p.data.toList p'.data.toList), (cmS n.data.toList n'.data.toList), (cmI d d')]) = R := ⟨_, rfl⟩
  have hK : cmK (p.data.toList, n.data.toList, d) (p'.data.toList, n'.data.toList, d') = R := by rw [← hR]; rw [← cmK_cho]; simp only [orL, orI_zero]
  rw [hR] at HO
  rw [hK]
  clear hK hR
  go_enter Tryz.func59, Tryz.ntmps59
  go_wp2_with (fail)
  clear hw0 hw1 hs0
  go_region_held3 (fun w' => w'.cell? ⟨w.heap.size, 0, none⟩ = some (.string p) ∧ w'.cell? ⟨w.heap.size, 1, none⟩ = some (.string n) ∧ w'.cell? ⟨w.heap.size, 2, none⟩ = some (.int .i64 d) ∧ w'.cell? ⟨w.heap.size, 3, none⟩ = some (.bool f) ∧ w'.cell? ⟨w.heap.size + 1, 0, none⟩ = some (.string p') ∧ w'.cell? ⟨w.heap.size + 1, 1, none⟩ = some (.string n') ∧ w'.cell? ⟨w.heap.size + 1, 2, none⟩ = some (.int .i64 d') ∧ w'.cell? ⟨w.heap.size + 1, 3, none⟩ = some (.bool f') ∧ Below w1.heap.size w1 w')
    (((try go_split_ands); (and_intros) <;> first
      | assumption | exact (Below.refl _ _).drew | exact ((Below.refl _ _).alloc (Nat.le_refl _) _).drew | exact ((Below.refl _ _).drew).alloc (Nat.le_refl _) _ | exact Below.drew (by assumption) | (go_keep; done)))
    (first
      | (go_split_ands; go_at_call 100; with_reducible refine (H1.out _).mono ?_; rintro e w6 ⟨rfl, rfl⟩)
      | (go_split_ands; go_at_call 100; with_reducible refine (H2.out _).mono ?_; rintro e w6 ⟨rfl, rfl⟩)
      | (go_split_ands; go_at_call 101; with_reducible refine (H3.out _).mono ?_; rintro e w6 ⟨rfl, rfl⟩)
      | (go_split_ands; go_at_call 99; refine (HO.out _ _).mono ?_; rintro e w6 ⟨rfl, rfl⟩))
  go_wp2_with (fail)
  go_ret
  exact ⟨rfl, btO HB.out (Below.drew (belO _ _))⟩
def Fx.plc (f : Fx) : Bool := nameO f.1.data.toList && dayO f.2.1
set_option maxRecDepth 100000 in
set_option maxHeartbeats 1600000 in
theorem hasPlace_any (n : ByteArray) (d : Int) (v : ByteArray) (w : World) : Calls Tryz.prog 53 #[.agg #[.string n, .int .i64 d, .string v]] w (BoolRO (Fx.plc (n, d, v)) w) := by
  have HB1 := belO w (.cells #[.string n, .int .i64 d, .string v] 44)
  obtain ⟨w1, hw1⟩ : ∃ w1, w.alloc (.cells #[.string n, .int .i64 d, .string v] 44) = w1 := ⟨_, rfl⟩
  have c0 : w1.cell? ⟨w.heap.size, 0, none⟩ = some (.string n) := by rw [← hw1, World.cell?_alloc_at _ _ _ _ rfl]; rfl
  have c1 : w1.cell? ⟨w.heap.size, 1, none⟩ = some (.int .i64 d) := by rw [← hw1, World.cell?_alloc_at _ _ _ _ rfl]; rfl
  have c2 : w1.cell? ⟨w.heap.size, 2, none⟩ = some (.string v) := by rw [← hw1, World.cell?_alloc_at _ _ _ _ rfl]; rfl
  rw [hw1] at HB1
  have HB := Lib.hid HB1
  clear HB1
  have HN := Lib.hid (fun W => pname8_any n _ rfl W)
  have HD := Lib.hid (fun W => pday_any d W)
  have hv : Fx.plc (n, d, v) = (nameO n.data.toList && dayO d) := rfl
  rw [hv]
  cases h : nameO n.data.toList
  · rw [h] at HN
    clear h hv
    go_enter Tryz.func53, Tryz.ntmps53
    go_wp2_with (first
      | (go_at_call 10; ((with_reducible refine (HN.out _).mono ?_); rintro x w2 ⟨rfl, rfl⟩))
      | (go_at_call 87; ((with_reducible refine (HD.out _).mono ?_); rintro x w2 ⟨rfl, rfl⟩)))
    go_ret
    exact ⟨rfl, HB.out⟩
  · rw [h] at HN
    clear h hv
    go_enter Tryz.func53, Tryz.ntmps53
    go_wp2_with (first
      | (go_at_call 10; ((with_reducible refine (HN.out _).mono ?_); rintro x w2 ⟨rfl, rfl⟩))
      | (go_at_call 87; ((with_reducible refine (HD.out _).mono ?_); rintro x w2 ⟨rfl, rfl⟩)))
    go_ret
    exact ⟨rfl, HB.out⟩
theorem Fx.ok_plc (f : Fx) : Fx.ok f = (Fx.plc f && decide (chkR f.2.2.data.toList = 0)) := rfl
set_option maxRecDepth 100000 in
set_option maxHeartbeats 1600000 in
theorem isFixing_any (n : ByteArray) (d : Int) (v : ByteArray) (w : World) (hvr : VarR w) (hv : v.size ≤ 1048576) : Calls Tryz.prog 61 #[.agg #[.string n, .int .i64 d, .string v]] w (BoolRO (Fx.ok (n, d, v)) w) := by
  have HB1 := belO w (.cells #[.string n, .int .i64 d, .string v] 44)
  obtain ⟨w1, hw1⟩ : ∃ w1, w.alloc (.cells #[.string n, .int .i64 d, .string v] 44) = w1 := ⟨_, rfl⟩
  have c0 : w1.cell? ⟨w.heap.size, 0, none⟩ = some (.string n) := by rw [← hw1, World.cell?_alloc_at _ _ _ _ rfl]; rfl
  have c1 : w1.cell? ⟨w.heap.size, 1, none⟩ = some (.int .i64 d) := by rw [← hw1, World.cell?_alloc_at _ _ _ _ rfl]; rfl
  have c2 : w1.cell? ⟨w.heap.size, 2, none⟩ = some (.string v) := by rw [← hw1, World.cell?_alloc_at _ _ _ _ rfl]; rfl
  rw [hw1] at HB1
  have HB := Lib.hid HB1
  have HK := Lib.hid (fun W (hW : Below w1.heap.size w1 W) => rcheck_any v hv W ((hvr.below HB1).below hW))
  clear HB1
  have HP := Lib.hid (fun W => hasPlace_any n d v W)
  rw [Fx.ok_plc]
  show Calls Tryz.prog 61 #[.agg #[.string n, .int .i64 d, .string v]] w (BoolRO (Fx.plc (n, d, v) && decide (chkR v.data.toList = 0)) w)
  cases h : Fx.plc (n, d, v)
  · rw [h] at HP
    clear h hv hvr
    go_enter Tryz.func61, Tryz.ntmps61
    go_wp2_with (first
      | (go_at_call 53; ((with_reducible refine (HP.out _).mono ?_); rintro x w2 ⟨rfl, hb⟩; have HY := Lib.hid (btO HB.out hb); have e0 := cellO hb c0; have e1 := cellO hb c1; have e2 := cellO hb c2; have HBz := Lib.hid hb; clear hb))
      | (go_at_call 54; ((with_reducible refine (HK.out _ HBz.out).mono ?_); rintro x w3 ⟨rfl, hb⟩; have HZ := Lib.hid (btO HY.out hb); clear hb)))
    go_ret
    exact ⟨rfl, HY.out⟩
  · rw [h] at HP
    clear h hv hvr
    generalize chkR v.data.toList = cc at *
    by_cases hc : cc = 0
    · subst hc
      go_enter Tryz.func61, Tryz.ntmps61
      go_wp2_with (first
        | (go_at_call 53; ((with_reducible refine (HP.out _).mono ?_); rintro x w2 ⟨rfl, hb⟩; have HY := Lib.hid (btO HB.out hb); have e0 := cellO hb c0; have e1 := cellO hb c1; have e2 := cellO hb c2; have HBz := Lib.hid hb; clear hb))
        | (go_at_call 54; ((with_reducible refine (HK.out _ HBz.out).mono ?_); rintro x w3 ⟨rfl, hb⟩; have HZ := Lib.hid (btO HY.out hb); clear hb)))
      go_ret
      exact ⟨rfl, HZ.out⟩
    · have hz : (cc == 0) = false := by rw [beq_eq_false_iff_ne]; exact hc
      rw [decide_eq_false hc]
      clear hc
      go_enter Tryz.func61, Tryz.ntmps61
      go_wp2_with (first
        | (go_at_call 53; ((with_reducible refine (HP.out _).mono ?_); rintro x w2 ⟨rfl, hb⟩; have HY := Lib.hid (btO HB.out hb); have e0 := cellO hb c0; have e1 := cellO hb c1; have e2 := cellO hb c2; have HBz := Lib.hid hb; clear hb))
        | (go_at_call 54; ((with_reducible refine (HK.out _ HBz.out).mono ?_); rintro x w3 ⟨rfl, hb⟩; have HZ := Lib.hid (btO HY.out hb); clear hb)))
      go_ret
      exact ⟨rfl, HZ.out⟩
set_option maxRecDepth 100000 in
set_option maxHeartbeats 1600000 in
theorem isChoice_any (p n : ByteArray) (d : Int) (f : Bool) (w : World) : Calls Tryz.prog 57 #[.agg #[.string p, .string n, .int .i64 d, .bool f]] w (BoolRO (Cx.ok (p, n, d, f)) w) := by
  have HB1 := belO w (.cells #[.string p, .string n, .int .i64 d, .bool f] 47)
  obtain ⟨w1, hw1⟩ : ∃ w1, w.alloc (.cells #[.string p, .string n, .int .i64 d, .bool f] 47) = w1 := ⟨_, rfl⟩
  have c0 : w1.cell? ⟨w.heap.size, 0, none⟩ = some (.string p) := by rw [← hw1, World.cell?_alloc_at _ _ _ _ rfl]; rfl
  have c1 : w1.cell? ⟨w.heap.size, 1, none⟩ = some (.string n) := by rw [← hw1, World.cell?_alloc_at _ _ _ _ rfl]; rfl
  have c2 : w1.cell? ⟨w.heap.size, 2, none⟩ = some (.int .i64 d) := by rw [← hw1, World.cell?_alloc_at _ _ _ _ rfl]; rfl
  have c3 : w1.cell? ⟨w.heap.size, 3, none⟩ = some (.bool f) := by rw [← hw1, World.cell?_alloc_at _ _ _ _ rfl]; rfl
  rw [hw1] at HB1
  have HB := Lib.hid HB1
  clear HB1
  have HP := Lib.hid (fun W => pname8_any p _ rfl W)
  have HN := Lib.hid (fun W => pname8_any n _ rfl W)
  have HD := Lib.hid (fun W => pday_any d W)
  have hv : Cx.ok (p, n, d, f) = (nameO p.data.toList && nameO n.data.toList && dayO d) := rfl
  rw [hv]
  clear hv
  cases h : nameO p.data.toList
  · rw [h] at HP
    clear h
    go_enter Tryz.func57, Tryz.ntmps57
    go_wp2_with (first
      | (go_at_call 10; ((with_reducible refine (HP.out _).mono ?_); rintro x w2 ⟨rfl, rfl⟩))
      | (go_at_call 10; ((with_reducible refine (HN.out _).mono ?_); rintro x w2 ⟨rfl, rfl⟩))
      | (go_at_call 87; ((with_reducible refine (HD.out _).mono ?_); rintro x w2 ⟨rfl, rfl⟩)))
    go_ret
    exact ⟨rfl, HB.out⟩
  · rw [h] at HP
    cases h2 : nameO n.data.toList
    · rw [h2] at HN
      clear h h2
      go_enter Tryz.func57, Tryz.ntmps57
      go_wp2_with (first
        | (go_at_call 10; ((with_reducible refine (HP.out _).mono ?_); rintro x w2 ⟨rfl, rfl⟩))
        | (go_at_call 10; ((with_reducible refine (HN.out _).mono ?_); rintro x w2 ⟨rfl, rfl⟩))
        | (go_at_call 87; ((with_reducible refine (HD.out _).mono ?_); rintro x w2 ⟨rfl, rfl⟩)))
      go_ret
      exact ⟨rfl, HB.out⟩
    · rw [h2] at HN
      clear h h2
      go_enter Tryz.func57, Tryz.ntmps57
      go_wp2_with (first
        | (go_at_call 10; ((with_reducible refine (HP.out _).mono ?_); rintro x w2 ⟨rfl, rfl⟩))
        | (go_at_call 10; ((with_reducible refine (HN.out _).mono ?_); rintro x w2 ⟨rfl, rfl⟩))
        | (go_at_call 87; ((with_reducible refine (HD.out _).mono ?_); rintro x w2 ⟨rfl, rfl⟩)))
      go_ret
      exact ⟨rfl, HB.out⟩
end Go.Proofs.YtbfimfjhdbpenaaGreatDoor
/- Layer 8: inOrder, CheckEnv of the program. -/
namespace Go.Proofs.YtbfimfjhdbpenaaGreatDoor
open Go Go.RowKit Go.BigFrame
set_option maxRecDepth 100000 in
set_option maxHeartbeats 12800000 in
theorem inOrderF_any (A : Option Addr) (c : Nat) (fs : List Fx) (w : World) (hA : RowsR w A 3 fxC fs) (hl : fs.length ≤ 140737488351232) (hvr : VarR w) (hsz : ∀ f ∈ fs, f.2.2.size ≤ 1048576) :
    Calls Tryz.prog 60 #[.slice A fs.length c, .func (.func 61) #[] #[], .func (.func 56) #[] #[]] w (BoolRO (ordB Fx.key Fx.ok fs) w) := by
  have mixed : Tryz.prog.follows Departure.mixedOrders = true := by kernel_rfl
  have HA := Lib.hid hA
  have HVR := Lib.hid hvr
  have HSZ : Hid (∀ f ∈ fs, f.2.2.size ≤ 1048576) := hsz
  obtain ⟨R, hR⟩ : ∃ R : Bool, ordB Fx.key Fx.ok fs = R := ⟨_, rfl⟩
  have HX : Hid (∀ k, k < fs.length → okJ Fx.key Fx.ok fs k = false → R = false) := fun k hk g => by
    rw [← hR, Bool.eq_false_iff]; intro e; rw [(ordB_iff _ _ _).1 e k hk] at g; cases g
  have HX0 : Hid ((∀ i, i < fs.length → okJ Fx.key Fx.ok fs i = true) → R = true) := fun g1 => by rw [← hR]; exact (ordB_iff Fx.key Fx.ok fs).2 g1
  rw [hR]
  clear hR hA hvr hsz
  go_enter Tryz.func60, Tryz.ntmps60
  go_wp2_with (fail)
  go_loopw [11] (fun i wr => ∃ k : Nat, k ≤ fs.length ∧ i = .int .i64 k ∧ Hid (∀ i, i < k → okJ Fx.key Fx.ok fs i = true) ∧ Hid (Below w.heap.size w wr)) (fun i _ => fs.length - (intOf i).toNat)
  case atStart => exact ⟨0, by omega, rfl, fun i h => by omega, Below.refl _ _⟩
  case round =>
    obtain ⟨k, hk, rfl, HJ, HW⟩ := hrel
    by_cases hlt : k < fs.length
    ·
      have HIW := Lib.hid (HA.out.below HW.out)
      obtain ⟨bb, o, eA, -, d0, d1, d2⟩ := RowsR.fx HIW.out hlt
      have hbnd := HSZ.out fs[k] (List.getElem_mem hlt)
      have HXk : Hid (okJ Fx.key Fx.ok fs k = false → R = false) := fun g => HX.out k hlt g
      have HIk : Hid (okJ Fx.key Fx.ok fs k = true → ∀ i, i < k + 1 → okJ Fx.key Fx.ok fs i = true) := fun g i hi => by
        rcases Nat.lt_or_ge i k with q | q
        · exact HJ.out i q
        · obtain rfl : i = k := by omega
          exact g
      have hk1 : (k : Int) < (fs.length : Int) := by omega
      clear HJ
      rcases Nat.eq_zero_or_pos k with hkz | hkp
      · subst hkz
        have hv := okJ_zero Fx.key Fx.ok fs hlt
        rw [hv] at HXk HIk
        generalize fs[0] = ff at *
        obtain ⟨n, d, v⟩ := ff
        simp only at hbnd d0 d1 d2
        subst eA
        simp only [Nat.zero_mul, Nat.add_zero] at d0 d1 d2
        have HBt := Lib.hid (belO wr (.cells #[.string n, .int .i64 d, .string v] 44))
        have t0 : (wr.alloc (.cells #[.string n, .int .i64 d, .string v] 44)).cell? ⟨wr.heap.size, 0, none⟩ = some (.string n) := by rw [World.cell?_alloc_at _ _ _ _ rfl]; rfl
        have t1 : (wr.alloc (.cells #[.string n, .int .i64 d, .string v] 44)).cell? ⟨wr.heap.size, 1, none⟩ = some (.int .i64 d) := by rw [World.cell?_alloc_at _ _ _ _ rfl]; rfl
        have t2 : (wr.alloc (.cells #[.string n, .int .i64 d, .string v] 44)).cell? ⟨wr.heap.size, 2, none⟩ = some (.string v) := by rw [World.cell?_alloc_at _ _ _ _ rfl]; rfl
        have s0 := cellO HBt.out d0
        have s1 := cellO HBt.out d1
        have s2 := cellO HBt.out d2
        have HW5 := Lib.hid (btO HW.out HBt.out)
        have HCs := Lib.hid (And.intro t0 (And.intro t1 (And.intro t2 (And.intro s0 (And.intro s1 (s2))))))
        clear t0 t1 t2 s0 s1 s2
        cases hO : Fx.ok (n, d, v)
        · obtain rfl := HXk.out (by rw [hO])
          clear HXk HIk
          go_wp2_with (fail)
          generalize wr.alloc (.cells #[.string n, .int .i64 d, .string v] 44) = w5 at *
          obtain ⟨t0, t1, t2, s0, s1, s2⟩ := HCs.out
          have zt0 := fun z : Bel w5 => z.cell t0
          have zt1 := fun z : Bel w5 => z.cell t1
          have zt2 := fun z : Bel w5 => z.cell t2
          have zs0 := fun z : Bel w5 => z.cell s0
          have zs1 := fun z : Bel w5 => z.cell s1
          have zs2 := fun z : Bel w5 => z.cell s2
          have HV : Hid (∀ W, Below w5.heap.size w5 W → Calls Tryz.prog 61 #[.agg #[.string n, .int .i64 d, .string v]] W fun e w' => e = .returned (.bool (Fx.ok (n, d, v))) ∧ Below W.heap.size W w') := fun W hW => isFixing_any n d v W (HVR.out.below (btO HW5.out hW)) (by omega)
          rw [hO] at HV
          clear t0 t1 t2 s0 s1 s2 d0 d1 d2 hO
          refine wp_region_bel (by kernel_rfl) (by kernel_rfl) ?_
          repeat (go_big_quiet_step (first
            | (go_at_call 61; with_reducible exact Bel.calls HV.out _)))
          refine wpQuiet_nil ?_
          rintro _ ⟨zz, rfl⟩
          have HZW := Lib.hid (btO HW5.out zz.2)
          generalize zz.1 = w6 at *
          go_wp2_with (fail)
          go_ret
          exact ⟨rfl, HZW.out⟩
        · have HI2 := Lib.hid (HIk.out (by rw [hO]))
          clear HXk HIk
          go_wp2_with (fail)
          generalize wr.alloc (.cells #[.string n, .int .i64 d, .string v] 44) = w5 at *
          obtain ⟨t0, t1, t2, s0, s1, s2⟩ := HCs.out
          have zt0 := fun z : Bel w5 => z.cell t0
          have zt1 := fun z : Bel w5 => z.cell t1
          have zt2 := fun z : Bel w5 => z.cell t2
          have zs0 := fun z : Bel w5 => z.cell s0
          have zs1 := fun z : Bel w5 => z.cell s1
          have zs2 := fun z : Bel w5 => z.cell s2
          have HV : Hid (∀ W, Below w5.heap.size w5 W → Calls Tryz.prog 61 #[.agg #[.string n, .int .i64 d, .string v]] W fun e w' => e = .returned (.bool (Fx.ok (n, d, v))) ∧ Below W.heap.size W w') := fun W hW => isFixing_any n d v W (HVR.out.below (btO HW5.out hW)) (by omega)
          rw [hO] at HV
          clear t0 t1 t2 s0 s1 s2 d0 d1 d2 hO
          refine wp_region_bel (by kernel_rfl) (by kernel_rfl) ?_
          repeat (go_big_quiet_step (first
            | (go_at_call 61; with_reducible exact Bel.calls HV.out _)))
          refine wpQuiet_nil ?_
          rintro _ ⟨zz, rfl⟩
          have HZW := Lib.hid (btO HW5.out zz.2)
          generalize zz.1 = w6 at *
          go_wp2_with (fail)
          go_roundw
          case rel => exact ⟨0 + 1, by omega, by go_num, HI2, HZW⟩
          case measure => simp [intOf]; omega
      · obtain ⟨q, rfl⟩ : ∃ q, k = q + 1 := ⟨k - 1, by omega⟩
        have hlq : q < fs.length := by omega
        have hv := okJ_succ Fx.key Fx.ok fs q hlt
        rw [hv] at HXk HIk
        obtain ⟨bb', o', eA', -, g0, g1, g2⟩ := RowsR.fx HIW.out hlq
        rw [eA] at eA'
        injection eA' with eA'
        injection eA' with e1 e2
        subst e1 e2
        generalize fs[q] = g at *
        obtain ⟨n', d', v'⟩ := g
        simp only at g0 g1 g2
        generalize fs[q + 1] = ff at *
        obtain ⟨n, d, v⟩ := ff
        simp only at hbnd d0 d1 d2
        subst eA
        have HBt := Lib.hid (belO wr (.cells #[.string n, .int .i64 d, .string v] 44))
        have t0 : (wr.alloc (.cells #[.string n, .int .i64 d, .string v] 44)).cell? ⟨wr.heap.size, 0, none⟩ = some (.string n) := by rw [World.cell?_alloc_at _ _ _ _ rfl]; rfl
        have t1 : (wr.alloc (.cells #[.string n, .int .i64 d, .string v] 44)).cell? ⟨wr.heap.size, 1, none⟩ = some (.int .i64 d) := by rw [World.cell?_alloc_at _ _ _ _ rfl]; rfl
        have t2 : (wr.alloc (.cells #[.string n, .int .i64 d, .string v] 44)).cell? ⟨wr.heap.size, 2, none⟩ = some (.string v) := by rw [World.cell?_alloc_at _ _ _ _ rfl]; rfl
        have s0 := cellO HBt.out d0
        have s1 := cellO HBt.out d1
        have s2 := cellO HBt.out d2
        have r0 := cellO HBt.out g0
        have r1 := cellO HBt.out g1
        have r2 := cellO HBt.out g2
        have HW5 := Lib.hid (btO HW.out HBt.out)
        have HCs := Lib.hid (And.intro t0 (And.intro t1 (And.intro t2 (And.intro s0 (And.intro s1 (And.intro s2 (And.intro r0 (And.intro r1 (r2)))))))))
        clear t0 t1 t2 s0 s1 s2 r0 r1 r2
        have hq0 : (0 : Int) ≤ (q : Int) := by omega
        have hq1 : (q : Int) < (fs.length : Int) := by omega
        have hq2 : IntKind.i64.wrap ((q : Int) + 1 - 1) = (q : Int) := by rw [IntKind.wrap_i64]; omega
        have hq3 : (q : Int) + 1 - 1 = (q : Int) := by omega
        have hq5 : decide ((0 : Int) < (q : Int) + 1) = true := by rw [decide_eq_true_eq]; omega
        have hq6 : ((q + 1 : Nat) : Int) = (q : Int) + 1 := rfl
        rw [hq6] at hk1 ⊢
        clear hq6
        cases hO : Fx.ok (n, d, v)
        · obtain rfl := HXk.out (by rw [hO]; rfl)
          clear HXk HIk
          go_wp2_with (fail)
          generalize wr.alloc (.cells #[.string n, .int .i64 d, .string v] 44) = w5 at *
          obtain ⟨t0, t1, t2, s0, s1, s2, r0, r1, r2⟩ := HCs.out
          have zt0 := fun z : Bel w5 => z.cell t0
          have zt1 := fun z : Bel w5 => z.cell t1
          have zt2 := fun z : Bel w5 => z.cell t2
          have zs0 := fun z : Bel w5 => z.cell s0
          have zs1 := fun z : Bel w5 => z.cell s1
          have zs2 := fun z : Bel w5 => z.cell s2
          have zr0 := fun z : Bel w5 => z.cell r0
          have zr1 := fun z : Bel w5 => z.cell r1
          have zr2 := fun z : Bel w5 => z.cell r2
          have HV : Hid (∀ W, Below w5.heap.size w5 W → Calls Tryz.prog 61 #[.agg #[.string n, .int .i64 d, .string v]] W fun e w' => e = .returned (.bool (Fx.ok (n, d, v))) ∧ Below W.heap.size W w') := fun W hW => isFixing_any n d v W (HVR.out.below (btO HW5.out hW)) (by omega)
          rw [hO] at HV
          clear t0 t1 t2 s0 s1 s2 r0 r1 r2 d0 d1 d2 hO
          refine wp_region_bel (by kernel_rfl) (by kernel_rfl) ?_
          repeat (go_big_quiet_step (first
            | (go_at_call 61; with_reducible exact Bel.calls HV.out _)))
          refine wpQuiet_nil ?_
          rintro _ ⟨zz, rfl⟩
          have HZW := Lib.hid (btO HW5.out zz.2)
          generalize zz.1 = w6 at *
          go_wp2_with (fail)
          go_ret
          exact ⟨rfl, HZW.out⟩
        · obtain ⟨m, hm⟩ : ∃ m, cmK (Fx.key (n', d', v')) (Fx.key (n, d, v)) = m := ⟨_, rfl⟩
          have hml := cmK_neg (Fx.key (n', d', v')) (Fx.key (n, d, v))
          rw [hm] at hml
          cases hL : ltK (Fx.key (n', d', v')) (Fx.key (n, d, v))
          · obtain rfl := HXk.out (by rw [hO, hL]; rfl)
            have hg : decide ((0 : Int) ≤ m) = true := by rw [decide_eq_true_eq]; rw [hL] at hml; have : ¬ m < 0 := fun g => Bool.false_ne_true (hml.1 g); omega
            clear HXk HIk hml hL
            go_wp2_with (fail)
            generalize wr.alloc (.cells #[.string n, .int .i64 d, .string v] 44) = w5 at *
            obtain ⟨t0, t1, t2, s0, s1, s2, r0, r1, r2⟩ := HCs.out
            have zt0 := fun z : Bel w5 => z.cell t0
            have zt1 := fun z : Bel w5 => z.cell t1
            have zt2 := fun z : Bel w5 => z.cell t2
            have zs0 := fun z : Bel w5 => z.cell s0
            have zs1 := fun z : Bel w5 => z.cell s1
            have zs2 := fun z : Bel w5 => z.cell s2
            have zr0 := fun z : Bel w5 => z.cell r0
            have zr1 := fun z : Bel w5 => z.cell r1
            have zr2 := fun z : Bel w5 => z.cell r2
            have HV : Hid (∀ W, Below w5.heap.size w5 W → Calls Tryz.prog 61 #[.agg #[.string n, .int .i64 d, .string v]] W fun e w' => e = .returned (.bool (Fx.ok (n, d, v))) ∧ Below W.heap.size W w') := fun W hW => isFixing_any n d v W (HVR.out.below (btO HW5.out hW)) (by omega)
            rw [hO] at HV
            have HM : Hid (∀ W, Below w5.heap.size w5 W → Calls Tryz.prog 56 #[.agg #[.string n', .int .i64 d', .string v'], .agg #[.string n, .int .i64 d, .string v]] W fun e w' => e = .returned (.int .i64 m) ∧ Below W.heap.size W w') := fun W _ => by rw [← hm]; exact compareFixings_any n' v' n v d' d W
            clear t0 t1 t2 s0 s1 s2 r0 r1 r2 d0 d1 d2 hO hm
            refine wp_region_bel (by kernel_rfl) (by kernel_rfl) ?_
            repeat (go_big_quiet_step (first
              | (go_at_call 61; with_reducible exact Bel.calls HV.out _)
              | (go_at_call 56; with_reducible exact Bel.calls HM.out _)))
            refine wpQuiet_nil ?_
            rintro _ ⟨zz, rfl⟩
            have HZW := Lib.hid (btO HW5.out zz.2)
            generalize zz.1 = w6 at *
            go_wp2_with (fail)
            go_ret
            exact ⟨rfl, HZW.out⟩
          · have HI2 := Lib.hid (HIk.out (by rw [hO, hL]; rfl))
            have hg : decide ((0 : Int) ≤ m) = false := by rw [decide_eq_false_iff_not]; have := hml.2 hL; omega
            clear HXk HIk hml hL
            go_wp2_with (fail)
            generalize wr.alloc (.cells #[.string n, .int .i64 d, .string v] 44) = w5 at *
            obtain ⟨t0, t1, t2, s0, s1, s2, r0, r1, r2⟩ := HCs.out
            have zt0 := fun z : Bel w5 => z.cell t0
            have zt1 := fun z : Bel w5 => z.cell t1
            have zt2 := fun z : Bel w5 => z.cell t2
            have zs0 := fun z : Bel w5 => z.cell s0
            have zs1 := fun z : Bel w5 => z.cell s1
            have zs2 := fun z : Bel w5 => z.cell s2
            have zr0 := fun z : Bel w5 => z.cell r0
            have zr1 := fun z : Bel w5 => z.cell r1
            have zr2 := fun z : Bel w5 => z.cell r2
            have HV : Hid (∀ W, Below w5.heap.size w5 W → Calls Tryz.prog 61 #[.agg #[.string n, .int .i64 d, .string v]] W fun e w' => e = .returned (.bool (Fx.ok (n, d, v))) ∧ Below W.heap.size W w') := fun W hW => isFixing_any n d v W (HVR.out.below (btO HW5.out hW)) (by omega)
            rw [hO] at HV
            have HM : Hid (∀ W, Below w5.heap.size w5 W → Calls Tryz.prog 56 #[.agg #[.string n', .int .i64 d', .string v'], .agg #[.string n, .int .i64 d, .string v]] W fun e w' => e = .returned (.int .i64 m) ∧ Below W.heap.size W w') := fun W _ => by rw [← hm]; exact compareFixings_any n' v' n v d' d W
            clear t0 t1 t2 s0 s1 s2 r0 r1 r2 d0 d1 d2 hO hm
            refine wp_region_bel (by kernel_rfl) (by kernel_rfl) ?_
            repeat (go_big_quiet_step (first
              | (go_at_call 61; with_reducible exact Bel.calls HV.out _)
              | (go_at_call 56; with_reducible exact Bel.calls HM.out _)))
            refine wpQuiet_nil ?_
            rintro _ ⟨zz, rfl⟩
            have HZW := Lib.hid (btO HW5.out zz.2)
            generalize zz.1 = w6 at *
            go_wp2_with (fail)
            go_roundw
            case rel => exact ⟨q + 1 + 1, by omega, by go_num, HI2, HZW⟩
            case measure => simp [intOf]; omega
    · obtain rfl : k = fs.length := by omega
      obtain rfl : R = true := HX0.out (fun i h => HJ.out i h)
      clear HJ HX0 HX
      go_wp2_with (fail)
      go_ret
      exact ⟨rfl, HW.out⟩
set_option maxRecDepth 100000 in
set_option maxHeartbeats 12800000 in
theorem inOrderC_any (A : Option Addr) (c : Nat) (cs : List Cx) (w : World) (hA : RowsR w A 4 cxC cs) (hl : cs.length ≤ 140737488351232) (hvr : VarR w) (hsz : ∀ c ∈ cs, True) :
    Calls Tryz.prog 62 #[.slice A cs.length c, .func (.func 57) #[] #[], .func (.func 59) #[] #[]] w (BoolRO (ordB Cx.key Cx.ok cs) w) := by
  have mixed : Tryz.prog.follows Departure.mixedOrders = true := by kernel_rfl
  have HA := Lib.hid hA
  have HVR := Lib.hid hvr
  have HSZ : Hid (∀ c ∈ cs, True) := hsz
  obtain ⟨R, hR⟩ : ∃ R : Bool, ordB Cx.key Cx.ok cs = R := ⟨_, rfl⟩
  have HX : Hid (∀ k, k < cs.length → okJ Cx.key Cx.ok cs k = false → R = false) := fun k hk g => by
    rw [← hR, Bool.eq_false_iff]; intro e; rw [(ordB_iff _ _ _).1 e k hk] at g; cases g
  have HX0 : Hid ((∀ i, i < cs.length → okJ Cx.key Cx.ok cs i = true) → R = true) := fun g1 => by rw [← hR]; exact (ordB_iff Cx.key Cx.ok cs).2 g1
  rw [hR]
  clear hR hA hvr hsz
  go_enter Tryz.func62, Tryz.ntmps62
  go_wp2_with (fail)
  go_loopw [11] (fun i wr => ∃ k : Nat, k ≤ cs.length ∧ i = .int .i64 k ∧ Hid (∀ i, i < k → okJ Cx.key Cx.ok cs i = true) ∧ Hid (Below w.heap.size w wr)) (fun i _ => cs.length - (intOf i).toNat)
  case atStart => exact ⟨0, by omega, rfl, fun i h => by omega, Below.refl _ _⟩
  case round =>
    obtain ⟨k, hk, rfl, HJ, HW⟩ := hrel
    by_cases hlt : k < cs.length
    ·
      have HIW := Lib.hid (HA.out.below HW.out)
      obtain ⟨bb, o, eA, -, d0, d1, d2, d3⟩ := RowsR.cx HIW.out hlt
      have hbnd := HSZ.out cs[k] (List.getElem_mem hlt)
      have HXk : Hid (okJ Cx.key Cx.ok cs k = false → R = false) := fun g => HX.out k hlt g
      have HIk : Hid (okJ Cx.key Cx.ok cs k = true → ∀ i, i < k + 1 → okJ Cx.key Cx.ok cs i = true) := fun g i hi => by
        rcases Nat.lt_or_ge i k with q | q
        · exact HJ.out i q
        · obtain rfl : i = k := by omega
          exact g
      have hk1 : (k : Int) < (cs.length : Int) := by omega
      clear HJ
      rcases Nat.eq_zero_or_pos k with hkz | hkp
      · subst hkz
        have hv := okJ_zero Cx.key Cx.ok cs hlt
        rw [hv] at HXk HIk
        generalize cs[0] = ff at *
        obtain ⟨p, n, d, f⟩ := ff
        simp only at hbnd d0 d1 d2 d3
        subst eA
        simp only [Nat.zero_mul, Nat.add_zero] at d0 d1 d2 d3
        have HBt := Lib.hid (belO wr (.cells #[.string p, .string n, .int .i64 d, .bool f] 47))
        have t0 : (wr.alloc (.cells #[.string p, .string n, .int .i64 d, .bool f] 47)).cell? ⟨wr.heap.size, 0, none⟩ = some (.string p) := by rw [World.cell?_alloc_at _ _ _ _ rfl]; rfl
        have t1 : (wr.alloc (.cells #[.string p, .string n, .int .i64 d, .bool f] 47)).cell? ⟨wr.heap.size, 1, none⟩ = some (.string n) := by rw [World.cell?_alloc_at _ _ _ _ rfl]; rfl
        have t2 : (wr.alloc (.cells #[.string p, .string n, .int .i64 d, .bool f] 47)).cell? ⟨wr.heap.size, 2, none⟩ = some (.int .i64 d) := by rw [World.cell?_alloc_at _ _ _ _ rfl]; rfl
        have t3 : (wr.alloc (.cells #[.string p, .string n, .int .i64 d, .bool f] 47)).cell? ⟨wr.heap.size, 3, none⟩ = some (.bool f) := by rw [World.cell?_alloc_at _ _ _ _ rfl]; rfl
        have s0 := cellO HBt.out d0
        have s1 := cellO HBt.out d1
        have s2 := cellO HBt.out d2
        have s3 := cellO HBt.out d3
        have HW5 := Lib.hid (btO HW.out HBt.out)
        have HCs := Lib.hid (And.intro t0 (And.intro t1 (And.intro t2 (And.intro t3 (And.intro s0 (And.intro s1 (And.intro s2 (s3))))))))
        clear t0 t1 t2 t3 s0 s1 s2 s3
        cases hO : Cx.ok (p, n, d, f)
        · obtain rfl := HXk.out (by rw [hO])
          clear HXk HIk
          go_wp2_with (fail)
          generalize wr.alloc (.cells #[.string p, .string n, .int .i64 d, .bool f] 47) = w5 at *
          obtain ⟨t0, t1, t2, t3, s0, s1, s2, s3⟩ := HCs.out
          have zt0 := fun z : Bel w5 => z.cell t0
          have zt1 := fun z : Bel w5 => z.cell t1
          have zt2 := fun z : Bel w5 => z.cell t2
          have zt3 := fun z : Bel w5 => z.cell t3
          have zs0 := fun z : Bel w5 => z.cell s0
          have zs1 := fun z : Bel w5 => z.cell s1
          have zs2 := fun z : Bel w5 => z.cell s2
          have zs3 := fun z : Bel w5 => z.cell s3
          have HV : Hid (∀ W, Below w5.heap.size w5 W → Calls Tryz.prog 57 #[.agg #[.string p, .string n, .int .i64 d, .bool f]] W fun e w' => e = .returned (.bool (Cx.ok (p, n, d, f))) ∧ Below W.heap.size W w') := fun W hW => isChoice_any p n d f W
          rw [hO] at HV
          clear t0 t1 t2 t3 s0 s1 s2 s3 d0 d1 d2 d3 hO
          refine wp_region_bel (by kernel_rfl) (by kernel_rfl) ?_
          repeat (go_big_quiet_step (first
            | (go_at_call 57; with_reducible exact Bel.calls HV.out _)))
          refine wpQuiet_nil ?_
          rintro _ ⟨zz, rfl⟩
          have HZW := Lib.hid (btO HW5.out zz.2)
          generalize zz.1 = w6 at *
          go_wp2_with (fail)
          go_ret
          exact ⟨rfl, HZW.out⟩
        · have HI2 := Lib.hid (HIk.out (by rw [hO]))
          clear HXk HIk
          go_wp2_with (fail)
          generalize wr.alloc (.cells #[.string p, .string n, .int .i64 d, .bool f] 47) = w5 at *
          obtain ⟨t0, t1, t2, t3, s0, s1, s2, s3⟩ := HCs.out
          have zt0 := fun z : Bel w5 => z.cell t0
          have zt1 := fun z : Bel w5 => z.cell t1
          have zt2 := fun z : Bel w5 => z.cell t2
          have zt3 := fun z : Bel w5 => z.cell t3
          have zs0 := fun z : Bel w5 => z.cell s0
          have zs1 := fun z : Bel w5 => z.cell s1
          have zs2 := fun z : Bel w5 => z.cell s2
          have zs3 := fun z : Bel w5 => z.cell s3
          have HV : Hid (∀ W, Below w5.heap.size w5 W → Calls Tryz.prog 57 #[.agg #[.string p, .string n, .int .i64 d, .bool f]] W fun e w' => e = .returned (.bool (Cx.ok (p, n, d, f))) ∧ Below W.heap.size W w') := fun W hW => isChoice_any p n d f W
          rw [hO] at HV
          clear t0 t1 t2 t3 s0 s1 s2 s3 d0 d1 d2 d3 hO
          refine wp_region_bel (by kernel_rfl) (by kernel_rfl) ?_
          repeat (go_big_quiet_step (first
            | (go_at_call 57; with_reducible exact Bel.calls HV.out _)))
          refine wpQuiet_nil ?_
          rintro _ ⟨zz, rfl⟩
          have HZW := Lib.hid (btO HW5.out zz.2)
          generalize zz.1 = w6 at *
          go_wp2_with (fail)
          go_roundw
          case rel => exact ⟨0 + 1, by omega, by go_num, HI2, HZW⟩
          case measure => simp [intOf]; omega
      · obtain ⟨q, rfl⟩ : ∃ q, k = q + 1 := ⟨k - 1, by omega⟩
        have hlq : q < cs.length := by omega
        have hv := okJ_succ Cx.key Cx.ok cs q hlt
        rw [hv] at HXk HIk
        obtain ⟨bb', o', eA', -, g0, g1, g2, g3⟩ := RowsR.cx HIW.out hlq
        rw [eA] at eA'
        injection eA' with eA'
        injection eA' with e1 e2
        subst e1 e2
        generalize cs[q] = g at *
        obtain ⟨p', n', d', f'⟩ := g
        simp only at g0 g1 g2 g3
        generalize cs[q + 1] = ff at *
        obtain ⟨p, n, d, f⟩ := ff
        simp only at hbnd d0 d1 d2 d3
        subst eA
        have HBt := Lib.hid (belO wr (.cells #[.string p, .string n, .int .i64 d, .bool f] 47))
        have t0 : (wr.alloc (.cells #[.string p, .string n, .int .i64 d, .bool f] 47)).cell? ⟨wr.heap.size, 0, none⟩ = some (.string p) := by rw [World.cell?_alloc_at _ _ _ _ rfl]; rfl
        have t1 : (wr.alloc (.cells #[.string p, .string n, .int .i64 d, .bool f] 47)).cell? ⟨wr.heap.size, 1, none⟩ = some (.string n) := by rw [World.cell?_alloc_at _ _ _ _ rfl]; rfl
        have t2 : (wr.alloc (.cells #[.string p, .string n, .int .i64 d, .bool f] 47)).cell? ⟨wr.heap.size, 2, none⟩ = some (.int .i64 d) := by rw [World.cell?_alloc_at _ _ _ _ rfl]; rfl
        have t3 : (wr.alloc (.cells #[.string p, .string n, .int .i64 d, .bool f] 47)).cell? ⟨wr.heap.size, 3, none⟩ = some (.bool f) := by rw [World.cell?_alloc_at _ _ _ _ rfl]; rfl
        have s0 := cellO HBt.out d0
        have s1 := cellO HBt.out d1
        have s2 := cellO HBt.out d2
        have s3 := cellO HBt.out d3
        have r0 := cellO HBt.out g0
        have r1 := cellO HBt.out g1
        have r2 := cellO HBt.out g2
        have r3 := cellO HBt.out g3
        have HW5 := Lib.hid (btO HW.out HBt.out)
        have HCs := Lib.hid (And.intro t0 (And.intro t1 (And.intro t2 (And.intro t3 (And.intro s0 (And.intro s1 (And.intro s2 (And.intro s3 (And.intro r0 (And.intro r1 (And.intro r2 (r3))))))))))))
        clear t0 t1 t2 t3 s0 s1 s2 s3 r0 r1 r2 r3
        have hq0 : (0 : Int) ≤ (q : Int) := by omega
        have hq1 : (q : Int) < (cs.length : Int) := by omega
        have hq2 : IntKind.i64.wrap ((q : Int) + 1 - 1) = (q : Int) := by rw [IntKind.wrap_i64]; omega
        have hq3 : (q : Int) + 1 - 1 = (q : Int) := by omega
        have hq5 : decide ((0 : Int) < (q : Int) + 1) = true := by rw [decide_eq_true_eq]; omega
        have hq6 : ((q + 1 : Nat) : Int) = (q : Int) + 1 := rfl
        rw [hq6] at hk1 ⊢
        clear hq6
        cases hO : Cx.ok (p, n, d, f)
        · obtain rfl := HXk.out (by rw [hO]; rfl)
          clear HXk HIk
          go_wp2_with (fail)
          generalize wr.alloc (.cells #[.string p, .string n, .int .i64 d, .bool f] 47) = w5 at *
          obtain ⟨t0, t1, t2, t3, s0, s1, s2, s3, r0, r1, r2, r3⟩ := HCs.out
          have zt0 := fun z : Bel w5 => z.cell t0
          have zt1 := fun z : Bel w5 => z.cell t1
          have zt2 := fun z : Bel w5 => z.cell t2
          have zt3 := fun z : Bel w5 => z.cell t3
          have zs0 := fun z : Bel w5 => z.cell s0
          have zs1 := fun z : Bel w5 => z.cell s1
          have zs2 := fun z : Bel w5 => z.cell s2
          have zs3 := fun z : Bel w5 => z.cell s3
          have zr0 := fun z : Bel w5 => z.cell r0
          have zr1 := fun z : Bel w5 => z.cell r1
          have zr2 := fun z : Bel w5 => z.cell r2
          have zr3 := fun z : Bel w5 => z.cell r3
          have HV : Hid (∀ W, Below w5.heap.size w5 W → Calls Tryz.prog 57 #[.agg #[.string p, .string n, .int .i64 d, .bool f]] W fun e w' => e = .returned (.bool (Cx.ok (p, n, d, f))) ∧ Below W.heap.size W w') := fun W hW => isChoice_any p n d f W
          rw [hO] at HV
          clear t0 t1 t2 t3 s0 s1 s2 s3 r0 r1 r2 r3 d0 d1 d2 d3 hO
          refine wp_region_bel (by kernel_rfl) (by kernel_rfl) ?_
          repeat (go_big_quiet_step (first
            | (go_at_call 57; with_reducible exact Bel.calls HV.out _)))
          refine wpQuiet_nil ?_
          rintro _ ⟨zz, rfl⟩
          have HZW := Lib.hid (btO HW5.out zz.2)
          generalize zz.1 = w6 at *
          go_wp2_with (fail)
          go_ret
          exact ⟨rfl, HZW.out⟩
        · obtain ⟨m, hm⟩ : ∃ m, cmK (Cx.key (p', n', d', f')) (Cx.key (p, n, d, f)) = m := ⟨_, rfl⟩
          have hml := cmK_neg (Cx.key (p', n', d', f')) (Cx.key (p, n, d, f))
          rw [hm] at hml
          cases hL : ltK (Cx.key (p', n', d', f')) (Cx.key (p, n, d, f))
          · obtain rfl := HXk.out (by rw [hO, hL]; rfl)
            have hg : decide ((0 : Int) ≤ m) = true := by rw [decide_eq_true_eq]; rw [hL] at hml; have : ¬ m < 0 := fun g => Bool.false_ne_true (hml.1 g); omega
            clear HXk HIk hml hL
            go_wp2_with (fail)
            generalize wr.alloc (.cells #[.string p, .string n, .int .i64 d, .bool f] 47) = w5 at *
            obtain ⟨t0, t1, t2, t3, s0, s1, s2, s3, r0, r1, r2, r3⟩ := HCs.out
            have zt0 := fun z : Bel w5 => z.cell t0
            have zt1 := fun z : Bel w5 => z.cell t1
            have zt2 := fun z : Bel w5 => z.cell t2
            have zt3 := fun z : Bel w5 => z.cell t3
            have zs0 := fun z : Bel w5 => z.cell s0
            have zs1 := fun z : Bel w5 => z.cell s1
            have zs2 := fun z : Bel w5 => z.cell s2
            have zs3 := fun z : Bel w5 => z.cell s3
            have zr0 := fun z : Bel w5 => z.cell r0
            have zr1 := fun z : Bel w5 => z.cell r1
            have zr2 := fun z : Bel w5 => z.cell r2
            have zr3 := fun z : Bel w5 => z.cell r3
            have HV : Hid (∀ W, Below w5.heap.size w5 W → Calls Tryz.prog 57 #[.agg #[.string p, .string n, .int .i64 d, .bool f]] W fun e w' => e = .returned (.bool (Cx.ok (p, n, d, f))) ∧ Below W.heap.size W w') := fun W hW => isChoice_any p n d f W
            rw [hO] at HV
            have HM : Hid (∀ W, Below w5.heap.size w5 W → Calls Tryz.prog 59 #[.agg #[.string p', .string n', .int .i64 d', .bool f'], .agg #[.string p, .string n, .int .i64 d, .bool f]] W fun e w' => e = .returned (.int .i64 m) ∧ Below W.heap.size W w') := fun W _ => by rw [← hm]; exact compareChoices_any p' n' p n d' d f' f W
            clear t0 t1 t2 t3 s0 s1 s2 s3 r0 r1 r2 r3 d0 d1 d2 d3 hO hm
            refine wp_region_bel (by kernel_rfl) (by kernel_rfl) ?_
            repeat (go_big_quiet_step (first
              | (go_at_call 57; with_reducible exact Bel.calls HV.out _)
              | (go_at_call 59; with_reducible exact Bel.calls HM.out _)))
            refine wpQuiet_nil ?_
            rintro _ ⟨zz, rfl⟩
            have HZW := Lib.hid (btO HW5.out zz.2)
            generalize zz.1 = w6 at *
            go_wp2_with (fail)
            go_ret
            exact ⟨rfl, HZW.out⟩
          · have HI2 := Lib.hid (HIk.out (by rw [hO, hL]; rfl))
            have hg : decide ((0 : Int) ≤ m) = false := by rw [decide_eq_false_iff_not]; have := hml.2 hL; omega
            clear HXk HIk hml hL
            go_wp2_with (fail)
            generalize wr.alloc (.cells #[.string p, .string n, .int .i64 d, .bool f] 47) = w5 at *
            obtain ⟨t0, t1, t2, t3, s0, s1, s2, s3, r0, r1, r2, r3⟩ := HCs.out
            have zt0 := fun z : Bel w5 => z.cell t0
            have zt1 := fun z : Bel w5 => z.cell t1
            have zt2 := fun z : Bel w5 => z.cell t2
            have zt3 := fun z : Bel w5 => z.cell t3
            have zs0 := fun z : Bel w5 => z.cell s0
            have zs1 := fun z : Bel w5 => z.cell s1
            have zs2 := fun z : Bel w5 => z.cell s2
            have zs3 := fun z : Bel w5 => z.cell s3
            have zr0 := fun z : Bel w5 => z.cell r0
            have zr1 := fun z : Bel w5 => z.cell r1
            have zr2 := fun z : Bel w5 => z.cell r2
            have zr3 := fun z : Bel w5 => z.cell r3
            have HV : Hid (∀ W, Below w5.heap.size w5 W → Calls Tryz.prog 57 #[.agg #[.string p, .string n, .int .i64 d, .bool f]] W fun e w' => e = .returned (.bool (Cx.ok (p, n, d, f))) ∧ Below W.heap.size W w') := fun W hW => isChoice_any p n d f W
            rw [hO] at HV
            have HM : Hid (∀ W, Below w5.heap.size w5 W → Calls Tryz.prog 59 #[.agg #[.string p', .string n', .int .i64 d', .bool f'], .agg #[.string p, .string n, .int .i64 d, .bool f]] W fun e w' => e = .returned (.int .i64 m) ∧ Below W.heap.size W w') := fun W _ => by rw [← hm]; exact compareChoices_any p' n' p n d' d f' f W
            clear t0 t1 t2 t3 s0 s1 s2 s3 r0 r1 r2 r3 d0 d1 d2 d3 hO hm
            refine wp_region_bel (by kernel_rfl) (by kernel_rfl) ?_
            repeat (go_big_quiet_step (first
              | (go_at_call 57; with_reducible exact Bel.calls HV.out _)
              | (go_at_call 59; with_reducible exact Bel.calls HM.out _)))
            refine wpQuiet_nil ?_
            rintro _ ⟨zz, rfl⟩
            have HZW := Lib.hid (btO HW5.out zz.2)
            generalize zz.1 = w6 at *
            go_wp2_with (fail)
            go_roundw
            case rel => exact ⟨q + 1 + 1, by omega, by go_num, HI2, HZW⟩
            case measure => simp [intOf]; omega
    · obtain rfl : k = cs.length := by omega
      obtain rfl : R = true := HX0.out (fun i h => HJ.out i h)
      clear HJ HX0 HX
      go_wp2_with (fail)
      go_ret
      exact ⟨rfl, HW.out⟩
set_option maxRecDepth 100000 in
set_option maxHeartbeats 3200000 in
theorem pcheckEnv_any (E : Ev) (w : World) (hin : E.In w) (hvr : VarR w) (hsf : ∀ f ∈ E.fs, f.2.2.size ≤ 1048576) : Calls Tryz.prog 22 #[E.val] w (IntRO (envE E.fs E.cs) w) := by
  obtain ⟨fA, fs, fc, cA, cs, cc⟩ := E
  have HB1 := belO w (.cells #[.slice fA fs.length fc, .slice cA cs.length cc] 38)
  obtain ⟨w1, hw1⟩ : ∃ w1, w.alloc (.cells #[.slice fA fs.length fc, .slice cA cs.length cc] 38) = w1 := ⟨_, rfl⟩
  have c0 : w1.cell? ⟨w.heap.size, 0, none⟩ = some (.slice fA fs.length fc) := by rw [← hw1, World.cell?_alloc_at _ _ _ _ rfl]; rfl
  have c1 : w1.cell? ⟨w.heap.size, 1, none⟩ = some (.slice cA cs.length cc) := by rw [← hw1, World.cell?_alloc_at _ _ _ _ rfl]; rfl
  rw [hw1] at HB1
  have HB := Lib.hid HB1
  have hI1 := hin.below HB1
  have HF := Lib.hid (inOrderF_any fA fc fs w1 hI1.f hin.fl (hvr.below HB1) hsf)
  have HC := Lib.hid (fun W (hW : Below w1.heap.size w1 W) => inOrderC_any cA cc cs W (hI1.c.below hW) hin.cl ((hvr.below HB1).below hW) (fun _ _ => trivial))
  show Calls Tryz.prog 22 #[.agg #[.slice fA fs.length fc, .slice cA cs.length cc]] w (IntRO (envE fs cs) w)
  clear hin hvr hsf HB1 hI1
  by_cases h1 : 1000 < (fs.length : Int)
  · rw [show envE fs cs = 4 from if_pos (.inl (by omega))]
    go_enter Tryz.func22, Tryz.ntmps22
    go_wp2_with (fail)
    go_ret
    exact ⟨rfl, HB.out⟩
  · by_cases h2 : 1000 < (cs.length : Int)
    · rw [show envE fs cs = 4 from if_pos (.inr (by omega))]
      go_enter Tryz.func22, Tryz.ntmps22
      go_wp2_with (fail)
      go_ret
      exact ⟨rfl, HB.out⟩
    · rw [show envE fs cs = if ordB Fx.key Fx.ok fs && ordB Cx.key Cx.ok cs then 0 else 8 from if_neg (by omega)]
      cases hF : ordB Fx.key Fx.ok fs
      · rw [hF] at HF
        clear hF
        go_enter Tryz.func22, Tryz.ntmps22
        go_wp2_with (first
          | (go_at_call 60; ((with_reducible refine HF.out.mono ?_); rintro x w2 ⟨rfl, hb⟩; have e0 := cellO hb c0; have e1 := cellO hb c1; have HY := Lib.hid hb; clear hb)))
        go_ret
        exact ⟨rfl, btO HB.out HY.out⟩
      · rw [hF] at HF
        cases hC : ordB Cx.key Cx.ok cs
        · rw [hC] at HC
          clear hF hC
          go_enter Tryz.func22, Tryz.ntmps22
          go_wp2_with (first
            | (go_at_call 60; ((with_reducible refine HF.out.mono ?_); rintro x w2 ⟨rfl, hb⟩; have e0 := cellO hb c0; have e1 := cellO hb c1; have HY := Lib.hid hb; clear hb))
            | (go_at_call 62; ((with_reducible refine (HC.out _ HY.out).mono ?_); rintro x w3 ⟨rfl, hb⟩; have HZ := Lib.hid (btO HY.out hb); clear hb)))
          go_ret
          exact ⟨rfl, btO HB.out HZ.out⟩
        · rw [hC] at HC
          clear hF hC
          go_enter Tryz.func22, Tryz.ntmps22
          go_wp2_with (first
            | (go_at_call 60; ((with_reducible refine HF.out.mono ?_); rintro x w2 ⟨rfl, hb⟩; have e0 := cellO hb c0; have e1 := cellO hb c1; have HY := Lib.hid hb; clear hb))
            | (go_at_call 62; ((with_reducible refine (HC.out _ HY.out).mono ?_); rintro x w3 ⟨rfl, hb⟩; have HZ := Lib.hid (btO HY.out hb); clear hb)))
          go_ret
          exact ⟨rfl, btO HB.out HZ.out⟩
end Go.Proofs.YtbfimfjhdbpenaaGreatDoor
/- Layer 8: Find, Chosen of the reference and of the program. -/
namespace Go.Proofs.YtbfimfjhdbpenaaGreatDoor
open Go Go.RowKit Go.BigFrame
def fxP (n : ByteArray) (d : Int) (f : Fx) : Bool := decide (f.1 = n ∧ f.2.1 = d)
def fndV (fs : List Fx) (n : ByteArray) (d : Int) : ByteArray := match fs.find? (fxP n d) with | some f => f.2.2 | none => ⟨#[]⟩
def fndB (fs : List Fx) (n : ByteArray) (d : Int) : Bool := (fs.find? (fxP n d)).isSome
theorem find_at {α : Type} (q : α → Bool) (l : List α) (k : Nat) (hk : k < l.length) (h : ∀ j, j < k → ∀ (h : j < l.length), q l[j] = false) (hq : q l[k] = true) : l.find? q = some l[k] := by
  induction l generalizing k with
  | nil => simp at hk
  | cons x l ih =>
    cases k with
    | zero =>
      have hx : q x = true := hq
      rw [List.find?_cons, hx]; rfl
    | succ k =>
      have h0 : q x = false := h 0 (by omega) (by simp)
      rw [List.find?_cons, h0]
      exact ih k (by simpa using hk) (fun j hj hl => h (j + 1) (by omega) (by simpa using hl)) hq
theorem find_no {α : Type} (q : α → Bool) (l : List α) (h : ∀ j, ∀ (h : j < l.length), q l[j] = false) : l.find? q = none := by
  rw [List.find?_eq_none]
  intro x hx
  obtain ⟨j, hj, rfl⟩ := List.getElem_of_mem hx
  rw [h j hj]; exact Bool.false_ne_true
theorem fxP_cases (n : ByteArray) (d : Int) (x : Fx) : (x.1 = n ∧ x.2.1 = d ∧ fxP n d x = true) ∨ (fxP n d x = false ∧ ((x.1.toList == n.toList) = false ∨ (x.1 = n ∧ (x.2.1 == d) = false))) := by
  unfold fxP
  rcases str_cases x.1 n with h | h
  · by_cases hd : x.2.1 = d
    · exact .inl ⟨h, hd, by simp [h, hd]⟩
    · exact .inr ⟨by simp [hd], .inr ⟨h, by rw [beq_eq_false_iff_ne]; exact hd⟩⟩
  · exact .inr ⟨by simp [str_ne h], .inl h⟩
def FndE (v : ByteArray) (b : Bool) (w : World) (e : Ending) (w' : World) : Prop := e = .returned (.tuple #[.string v, .bool b]) ∧ Below w.heap.size w w'
end Go.Proofs.YtbfimfjhdbpenaaGreatDoor
/- Layer 8: the value of an expression (plain). -/
namespace Go.Proofs.YtbfimfjhdbpenaaGreatDoor
open Go
abbrev NR := ByteArray × Int
abbrev TR := Bool × Int
def lkN (fs : List Fx) (n : ByteArray) (d : Int) : NR := if fndB fs n d = true then (fndV fs n d, 0) else (⟨#[]⟩, 30)
def opN (k : Int) (a b : ByteArray) : NR :=
  if k = 4 then (twT addC (· + ·) a.data.toList b.data.toList, twC addC a.data.toList b.data.toList)
  else if k = 5 then (twT subC (· - ·) a.data.toList b.data.toList, twC subC a.data.toList b.data.toList)
  else if k = 6 then (twT mulC (· * ·) a.data.toList b.data.toList, twC mulC a.data.toList b.data.toList)
  else if twC comC a.data.toList b.data.toList = 0 then (if (k = 7 ∧ twK a.data.toList b.data.toList < 0) ∨ (k = 8 ∧ 0 < twK a.data.toList b.data.toList) then b else a, 0)
  else (⟨#[]⟩, twC comC a.data.toList b.data.toList)
def cpT (k : Int) (a b : ByteArray) : TR :=
  if twC comC a.data.toList b.data.toList = 0 then (decide ((k = 11 ∧ twK a.data.toList b.data.toList < 0) ∨ (k = 12 ∧ twK a.data.toList b.data.toList = 0)), 0)
  else (false, twC comC a.data.toList b.data.toList)
def zNT : NR × TR := ((⟨#[]⟩, 0), (false, 0))
def opR (k : Int) (x y : NR) : NR := if x.2 ≠ 0 then (⟨#[]⟩, x.2) else if y.2 ≠ 0 then (⟨#[]⟩, y.2) else opN k x.1 y.1
def cpR (k : Int) (x y : NR) : TR := if x.2 ≠ 0 then (false, x.2) else if y.2 ≠ 0 then (false, y.2) else cpT k x.1 y.1
def whR (p : TR) (x y : NR) : NR := if p.2 ≠ 0 then (⟨#[]⟩, p.2) else if p.1 = true then x else y
def anR (k : Int) (p q : TR) : TR := if p.2 ≠ 0 then (false, p.2) else if p.1 = decide (k = 14) then (p.1, 0) else q
def ntR (p : TR) : TR := if p.2 ≠ 0 then (false, p.2) else (!p.1, 0)
def evN (fs : List Fx) (day : Int) (k : Int) (r n : ByteArray) (d : Int) (l : List (NR × TR)) : NR :=
  if k = 1 then (r, 0) else if k = 2 then lkN fs n d else if k = 3 then lkN fs n day
  else if k = 9 then whR (l.getD 0 zNT).2 (l.getD 1 zNT).1 (l.getD 2 zNT).1
  else opR k (l.getD 0 zNT).1 (l.getD 1 zNT).1
def evT (k : Int) (l : List (NR × TR)) : TR :=
  if k = 15 then ntR (l.getD 0 zNT).2 else if 13 ≤ k then anR k (l.getD 0 zNT).2 (l.getD 1 zNT).2 else cpR k (l.getD 0 zNT).1 (l.getD 1 zNT).1
def evF (fs : List Fx) (day : Int) (k : Int) (r n : ByteArray) (d : Int) (l : List (NR × TR)) : NR × TR := (evN fs day k r n d l, evT k l)
def Ex.ev (fs : List Fx) (day : Int) (t : Ex) : NR × TR := Ex.fold (evF fs day) t
theorem Ex.ev_mk (fs : List Fx) (day k : Int) (r n : ByteArray) (d : Int) (A : Option Addr) (c : Nat) (s : List Ex) :
    Ex.ev fs day (.mk k r n d A c s) = (evN fs day k r n d (s.map (Ex.ev fs day)), evT k (s.map (Ex.ev fs day))) := by unfold Ex.ev; rw [Ex.fold_mk]; rfl
section
variable (fs : List Fx) (day : Int) (r n : ByteArray) (d : Int) (A : Option Addr) (c : Nat)
theorem ev_1 (s : List Ex) : (Ex.ev fs day (.mk 1 r n d A c s)).1 = (r, 0) := by rw [Ex.ev_mk]; rfl
theorem ev_2 (s : List Ex) : (Ex.ev fs day (.mk 2 r n d A c s)).1 = lkN fs n d := by rw [Ex.ev_mk]; rfl
theorem ev_3 (s : List Ex) : (Ex.ev fs day (.mk 3 r n d A c s)).1 = lkN fs n day := by rw [Ex.ev_mk]; rfl
theorem ev_9 (x y z : Ex) : (Ex.ev fs day (.mk 9 r n d A c [x, y, z])).1 = whR (x.ev fs day).2 (y.ev fs day).1 (z.ev fs day).1 := by rw [Ex.ev_mk]; rfl
theorem ev_op {k : Int} (h1 : 4 ≤ k) (h2 : k ≤ 8) (x y : Ex) : (Ex.ev fs day (.mk k r n d A c [x, y])).1 = opR k (x.ev fs day).1 (y.ev fs day).1 := by
  rw [Ex.ev_mk]; show evN _ _ _ _ _ _ _ = _
  unfold evN
  rw [if_neg (by omega), if_neg (by omega), if_neg (by omega), if_neg (by omega)]; rfl
theorem ev_cp {k : Int} (h1 : 11 ≤ k) (h2 : k ≤ 12) (x y : Ex) : (Ex.ev fs day (.mk k r n d A c [x, y])).2 = cpR k (x.ev fs day).1 (y.ev fs day).1 := by
  rw [Ex.ev_mk]; show evT _ _ = _
  unfold evT
  rw [if_neg (by omega), if_neg (by omega)]; rfl
theorem ev_an {k : Int} (h1 : 13 ≤ k) (h2 : k ≤ 14) (x y : Ex) : (Ex.ev fs day (.mk k r n d A c [x, y])).2 = anR k (x.ev fs day).2 (y.ev fs day).2 := by
  rw [Ex.ev_mk]; show evT _ _ = _
  unfold evT
  rw [if_neg (by omega), if_pos (by omega)]; rfl
theorem ev_nt (x : Ex) : (Ex.ev fs day (.mk 15 r n d A c [x])).2 = ntR (x.ev fs day).2 := by rw [Ex.ev_mk]; rfl
end
theorem srt_parts {k : Int} {r n : ByteArray} {d : Int} {A : Option Addr} {c : Nat} {s : List Ex} {x : Int} (hx : x ≠ 0) (h : Ex.srt (.mk k r n d A c s) = x) : srtB k = x ∧ fldB k r n d = true ∧ s.map Ex.srt = prtL k := by
  rw [Ex.srt_mk] at h
  by_cases g : srtB k ≠ 0 ∧ fldB k r n d = true ∧ s.map Ex.srt = prtL k
  · rw [srtF_ok g] at h; exact ⟨h, g.2⟩
  · rw [srtF_no g] at h; exact absurd h.symm hx
theorem map1 {s : List Ex} {a : Int} (h : s.map Ex.srt = [a]) : ∃ x, s = [x] ∧ x.srt = a := by
  match s, h with
  | [x], h => exact ⟨x, rfl, by simpa using h⟩
theorem map2 {s : List Ex} {a b : Int} (h : s.map Ex.srt = [a, b]) : ∃ x y, s = [x, y] ∧ x.srt = a ∧ y.srt = b := by
  match s, h with
  | [x, y], h => exact ⟨x, y, rfl, by simpa using h⟩
theorem map3 {s : List Ex} {a b e : Int} (h : s.map Ex.srt = [a, b, e]) : ∃ x y z, s = [x, y, z] ∧ x.srt = a ∧ y.srt = b ∧ z.srt = e := by
  match s, h with
  | [x, y, z], h => exact ⟨x, y, z, rfl, by simpa using h⟩
theorem srt_num {k : Int} {r n : ByteArray} {d : Int} {A : Option Addr} {c : Nat} {s : List Ex} (h : Ex.srt (.mk k r n d A c s) = 1) :
    ((k = 1 ∨ k = 2 ∨ k = 3) ∧ s = []) ∨ ((k = 4 ∨ k = 5 ∨ k = 6 ∨ k = 7 ∨ k = 8) ∧ ∃ x y, s = [x, y] ∧ x.srt = 1 ∧ y.srt = 1) ∨ (k = 9 ∧ ∃ x y z, s = [x, y, z] ∧ x.srt = 2 ∧ y.srt = 1 ∧ z.srt = 1) := by
  obtain ⟨h1, -, h3⟩ := srt_parts (by decide) h
  have hk : 1 ≤ k ∧ k ≤ 9 := by unfold srtB at h1; split at h1 <;> (try split at h1) <;> simp_all
  have hk : k = 1 ∨ k = 2 ∨ k = 3 ∨ k = 4 ∨ k = 5 ∨ k = 6 ∨ k = 7 ∨ k = 8 ∨ k = 9 := by omega
  rcases hk with rfl | rfl | rfl | rfl | rfl | rfl | rfl | rfl | rfl
  · exact .inl ⟨by decide, List.map_eq_nil_iff.1 h3⟩
  · exact .inl ⟨by decide, List.map_eq_nil_iff.1 h3⟩
  · exact .inl ⟨by decide, List.map_eq_nil_iff.1 h3⟩
  · exact .inr (.inl ⟨by decide, map2 h3⟩)
  · exact .inr (.inl ⟨by decide, map2 h3⟩)
  · exact .inr (.inl ⟨by decide, map2 h3⟩)
  · exact .inr (.inl ⟨by decide, map2 h3⟩)
  · exact .inr (.inl ⟨by decide, map2 h3⟩)
  · exact .inr (.inr ⟨rfl, map3 h3⟩)
theorem srt_tru {k : Int} {r n : ByteArray} {d : Int} {A : Option Addr} {c : Nat} {s : List Ex} (h : Ex.srt (.mk k r n d A c s) = 2) :
    ((k = 11 ∨ k = 12) ∧ ∃ x y, s = [x, y] ∧ x.srt = 1 ∧ y.srt = 1) ∨ ((k = 13 ∨ k = 14) ∧ ∃ x y, s = [x, y] ∧ x.srt = 2 ∧ y.srt = 2) ∨ (k = 15 ∧ ∃ x, s = [x] ∧ x.srt = 2) := by
  obtain ⟨h1, -, h3⟩ := srt_parts (by decide) h
  have hk : 11 ≤ k ∧ k ≤ 15 := by unfold srtB at h1; split at h1 <;> (try split at h1) <;> simp_all
  have hk : k = 11 ∨ k = 12 ∨ k = 13 ∨ k = 14 ∨ k = 15 := by omega
  rcases hk with rfl | rfl | rfl | rfl | rfl
  · exact .inl ⟨by decide, map2 h3⟩
  · exact .inl ⟨by decide, map2 h3⟩
  · exact .inr (.inl ⟨by decide, map2 h3⟩)
  · exact .inr (.inl ⟨by decide, map2 h3⟩)
  · exact .inr (.inr ⟨rfl, map1 h3⟩)
theorem fndV_size {fs : List Fx} {N : Nat} (hf : ∀ f ∈ fs, f.2.2.size ≤ N) (n : ByteArray) (d : Int) : (fndV fs n d).size ≤ N := by
  unfold fndV
  split
  · next f h => exact hf f (List.mem_of_find?_eq_some h)
  · exact Nat.zero_le _
theorem qT_size {c : Int} {q : Rat} (h : c = 0 → Sml q) : (qT c q).size ≤ 2003 := by
  unfold qT
  split
  · next g => exact rq_size (h g)
  · exact Nat.zero_le _
theorem twT_size {f : Rat → Rat → Int} {g : Rat → Rat → Rat} (hs : ∀ a b, f a b = 0 → Sml (g a b)) (a b : ByteArray) : (twT f g a.data.toList b.data.toList).size ≤ 2003 := by
  unfold twT
  refine qT_size fun h => ?_
  rcases text_cases a with h1 | ⟨q, rfl, hq⟩
  · rw [twC_l h1] at h; exact absurd h h1
  · rcases text_cases b with h2 | ⟨p, rfl, hp⟩
    · unfold twC at h
      rw [if_neg (fun g => g (rq_chk hq)), if_pos h2] at h
      exact absurd h h2
    · rw [twC_rq hq hp] at h
      rw [qv_rq, qv_rq]
      exact hs _ _ h
theorem opN_size (k : Int) (a b : ByteArray) (ha : a.size ≤ 1048576) (hb : b.size ≤ 1048576) : (opN k a b).1.size ≤ 1048576 := by
  have h1 : (twT addC (· + ·) a.data.toList b.data.toList).size ≤ 2003 := twT_size (f := addC) (g := (· + ·)) (fun _ _ h => addC_sml h) a b
  have h2 : (twT subC (· - ·) a.data.toList b.data.toList).size ≤ 2003 := twT_size (f := subC) (g := (· - ·)) (fun _ _ h => subC_sml h) a b
  have h3 : (twT mulC (· * ·) a.data.toList b.data.toList).size ≤ 2003 := twT_size (f := mulC) (g := (· * ·)) (fun _ _ h => mulC_sml h) a b
  unfold opN
  split
  · simp only; omega
  split
  · simp only; omega
  split
  · simp only; omega
  split
  · simp only
    split
    · exact hb
    · exact ha
  · exact Nat.zero_le _
theorem opR_size (k : Int) {x y : NR} (hx : x.1.size ≤ 1048576) (hy : y.1.size ≤ 1048576) : (opR k x y).1.size ≤ 1048576 := by
  unfold opR
  split
  · exact Nat.zero_le _
  · split
    · exact Nat.zero_le _
    · exact opN_size _ _ _ hx hy
theorem whR_size {p : TR} {x y : NR} (hx : x.1.size ≤ 1048576) (hy : y.1.size ≤ 1048576) : (whR p x y).1.size ≤ 1048576 := by
  unfold whR
  split
  · exact Nat.zero_le _
  · split
    · exact hx
    · exact hy
theorem Ex.ev_size {fs : List Fx} (hf : ∀ f ∈ fs, f.2.2.size ≤ 1048576) (day : Int) (t : Ex) (hb : t.byt ≤ 12000) : (t.ev fs day).1.1.size ≤ 1048576 := by
  induction t using Ex.ind with
  | h k r n d A c s ih =>
  have hr : r.size ≤ 12000 := by rw [Ex.byt_mk] at hb; omega
  have hs : ∀ i, ((s.map (Ex.ev fs day)).getD i zNT).1.1.size ≤ 1048576 := by
    intro i
    rw [List.getD_eq_getElem?_getD, List.getElem?_map]
    rcases Nat.lt_or_ge i s.length with h | h
    · rw [List.getElem?_eq_getElem h]
      exact ih _ (List.getElem_mem h) (Nat.le_trans (Ex.byt_sub (List.getElem_mem h)) hb)
    · rw [List.getElem?_eq_none h]; exact Nat.zero_le _
  rw [Ex.ev_mk]
  show (evN fs day k r n d _).1.size ≤ _
  unfold evN
  split
  · simp only; omega
  split
  · unfold lkN
    split
    · exact fndV_size hf _ _
    · exact Nat.zero_le _
  split
  · unfold lkN
    split
    · exact fndV_size hf _ _
    · exact Nat.zero_le _
  split
  · exact whR_size (hs 1) (hs 2)
  · exact opR_size _ (hs 0) (hs 1)
theorem opN_err (k : Int) (a b : ByteArray) (h : (opN k a b).2 ≠ 0) : (opN k a b).1 = ⟨#[]⟩ := by
  unfold opN at h ⊢
  have hq : ∀ (f : Rat → Rat → Int) (g : Rat → Rat → Rat), twC f a.data.toList b.data.toList ≠ 0 → twT f g a.data.toList b.data.toList = ⟨#[]⟩ := fun f g h => by unfold twT qT; rw [if_neg h]
  split
  · next e => rw [if_pos e] at h; exact hq _ _ h
  next e1 =>
  rw [if_neg e1] at h
  split
  · next e => rw [if_pos e] at h; exact hq _ _ h
  next e2 =>
  rw [if_neg e2] at h
  split
  · next e => rw [if_pos e] at h; exact hq _ _ h
  next e3 =>
  rw [if_neg e3] at h
  split
  · next e => rw [if_pos e] at h; exact absurd rfl h
  · rfl
end Go.Proofs.YtbfimfjhdbpenaaGreatDoor
/- Layer 8: Find, Chosen of the program. -/
namespace Go.Proofs.YtbfimfjhdbpenaaGreatDoor
open Go Go.RowKit Go.BigFrame
theorem sc3_row {w : World} {q : Nat} {a b c v1 v2 v3 : Value} {t : TypeId} (h : w.heap[q]? = some (.cells #[a, b, c] t (0, 0))) : (((w.setCell ⟨q, 0, none⟩ v1).setCell ⟨q, 1, none⟩ v2).setCell ⟨q, 2, none⟩ v3).heap[q]? = some (.cells #[v1, v2, v3] t (0, 0)) := by
  simp [World.setCell, Array.getElem?_modify, h]
theorem sc3_bel {w : World} {q : Nat} {v1 v2 v3 : Value} : Below q w (((w.setCell ⟨q, 0, none⟩ v1).setCell ⟨q, 1, none⟩ v2).setCell ⟨q, 2, none⟩ v3) := ((((Below.refl q w).setCell (Nat.le_refl _) _).setCell (Nat.le_refl _) _).setCell (Nat.le_refl _) _)
theorem row_cell {w : World} {q : Nat} {cs : Array Value} {t : TypeId} {j : Nat} {v : Value} (h : w.heap[q]? = some (.cells cs t (0, 0))) (hv : cs[j]? = some v) : w.cell? ⟨q, j, none⟩ = some v := by
  simp [World.cell?, h, hv]
theorem row_frz {w : World} {q : Nat} {cs : Array Value} {t : TypeId} {j : Nat} (h : w.heap[q]? = some (.cells cs t (0, 0))) : w.frozen? ⟨q, j, none⟩ = false := by
  simp [World.frozen?, h]
set_option maxRecDepth 100000 in
set_option maxHeartbeats 1600000 in
theorem closF_any (n : ByteArray) (d : Int) (x : Fx) (bn bd : Nat) (w : World) (kbn : w.cell? ⟨bn, 0, none⟩ = some (.string n)) (kbd : w.cell? ⟨bd, 0, none⟩ = some (.int .i64 d)) :
    Calls Tryz.prog 69 #[.agg #[.string x.1, .int .i64 x.2.1, .string x.2.2], .pointer (some ⟨bn, 0, none⟩), .pointer (some ⟨bd, 0, none⟩)] w (BoolRO (fxP n d x) w) := by
  obtain ⟨xn, xd, xv⟩ := x
  have HB1 := belO w (.cells #[.string xn, .int .i64 xd, .string xv] 44)
  obtain ⟨w1, hw1⟩ : ∃ w1, w.alloc (.cells #[.string xn, .int .i64 xd, .string xv] 44) = w1 := ⟨_, rfl⟩
  have c0 : w1.cell? ⟨w.heap.size, 0, none⟩ = some (.string xn) := by rw [← hw1, World.cell?_alloc_at _ _ _ _ rfl]; rfl
  have c1 : w1.cell? ⟨w.heap.size, 1, none⟩ = some (.int .i64 xd) := by rw [← hw1, World.cell?_alloc_at _ _ _ _ rfl]; rfl
  have c2 : w1.cell? ⟨w.heap.size, 2, none⟩ = some (.string xv) := by rw [← hw1, World.cell?_alloc_at _ _ _ _ rfl]; rfl
  rw [hw1] at HB1
  have jbn := cellO HB1 kbn
  have jbd := cellO HB1 kbd
  have HB := Lib.hid HB1
  have hc := fxP_cases n d (xn, xd, xv)
  simp only at hc ⊢
  clear HB1 kbn kbd
  rcases hc with ⟨rfl, rfl, hq⟩ | ⟨hq, hc⟩
  · rw [hq]
    clear hq
    go_enter Tryz.func69, Tryz.ntmps69
    go_wp2_with (fail)
    go_ret
    exact ⟨rfl, HB.out⟩
  · rw [hq]
    clear hq
    rcases hc with hc | ⟨rfl, hc⟩
    all_goals
      go_enter Tryz.func69, Tryz.ntmps69
      go_wp2_with (fail)
      go_ret
      exact ⟨rfl, HB.out⟩
def FstFR (o : Option Fx) (w : World) (e : Ending) (w' : World) : Prop := e = .returned (.tuple #[.agg (match o with | some x => (fxC x).toArray | none => #[.string ⟨#[]⟩, .int .i64 0, .string ⟨#[]⟩]), .bool o.isSome]) ∧ Below w.heap.size w w'
set_option maxRecDepth 100000 in
set_option maxHeartbeats 3200000 in
theorem firstF_any (n : ByteArray) (d : Int) (A : Option Addr) (c : Nat) (fs : List Fx) (bn bd : Nat) (w : World) (hA : RowsR w A 3 fxC fs) (hl : fs.length ≤ 140737488351232) (kbn : w.cell? ⟨bn, 0, none⟩ = some (.string n)) (kbd : w.cell? ⟨bd, 0, none⟩ = some (.int .i64 d)) :
    Calls Tryz.prog 68 #[.slice A fs.length c, .func (.func 69) #[] #[.pointer (some ⟨bn, 0, none⟩), .pointer (some ⟨bd, 0, none⟩)]] w (FstFR (fs.find? (fxP n d)) w) := by
  obtain ⟨O, hO⟩ : ∃ O, fs.find? (fxP n d) = O := ⟨_, rfl⟩
  have HX : Hid (∀ k (hk : k < fs.length), (∀ j, j < k → ∀ (h : j < fs.length), fxP n d fs[j] = false) → fxP n d fs[k] = true → O = some fs[k]) := fun k hk h g => by
    rw [← hO]; exact find_at (fxP n d) fs k hk h g
  have HX0 : Hid ((∀ j, ∀ (h : j < fs.length), fxP n d fs[j] = false) → O = none) := fun h => by rw [← hO]; exact find_no (fxP n d) fs h
  rw [hO]
  have HB1 := belO w (.cells #[.string ⟨#[]⟩, .int .i64 0, .string ⟨#[]⟩] 44)
  have hrow : (w.alloc (.cells #[.string ⟨#[]⟩, .int .i64 0, .string ⟨#[]⟩] 44)).heap[w.heap.size]? = some (.cells #[.string ⟨#[]⟩, .int .i64 0, .string ⟨#[]⟩] 44 (0, 0)) := heap_alloc_new w _
  obtain ⟨w1, hw1⟩ : ∃ w1, w.alloc (.cells #[.string ⟨#[]⟩, .int .i64 0, .string ⟨#[]⟩] 44) = w1 := ⟨_, rfl⟩
  rw [hw1] at HB1 hrow
  have HB := Lib.hid HB1
  have HA := Lib.hid (hA.below HB1)
  have HR := Lib.hid hrow
  have HCL := Lib.hid (fun (x : Fx) W (hW : Below w1.heap.size w1 W) => closF_any n d x bn bd W ((hW.cell (p := ⟨bn, 0, none⟩) (Nat.lt_of_lt_of_le (spot_none kbn).2 HB1.size)).trans (cellO HB1 kbn)) ((hW.cell (p := ⟨bd, 0, none⟩) (Nat.lt_of_lt_of_le (spot_none kbd).2 HB1.size)).trans (cellO HB1 kbd)))
  have hlt1 := lt_of_block hrow
  clear hO hA hrow kbn kbd HB1
  go_enter Tryz.func68, Tryz.ntmps68
  go_wp2_with (fail)
  clear hw1
  go_loopw [10] (fun i wr => ∃ k : Nat, k ≤ fs.length ∧ i = .int .i64 k ∧ Hid (∀ j, j < k → ∀ (h : j < fs.length), fxP n d fs[j] = false) ∧ Hid (Below w1.heap.size w1 wr)) (fun i _ => fs.length - (intOf i).toNat)
  case atStart => exact ⟨0, by omega, rfl, fun j h => by omega, Below.refl _ _⟩
  case round =>
    obtain ⟨k, hk, rfl, HJ, HW⟩ := hrel
    by_cases hlt : k < fs.length
    · obtain ⟨bb, o, eA, -, d0, d1, d2⟩ := RowsR.fx (HA.out.below HW.out) hlt
      subst eA
      have HY := Lib.hid (HX.out k hlt HJ.out)
      have HJ2 : Hid (fxP n d fs[k] = false → ∀ j, j < k + 1 → ∀ (h : j < fs.length), fxP n d fs[j] = false) := fun g j hj h => by
        rcases Nat.lt_or_ge j k with q | q
        · exact HJ.out j q h
        · obtain rfl : j = k := by omega
          exact g
      have hk1 : (k : Int) < (fs.length : Int) := by omega
      generalize fs[k] = x at *
      have HC1 := Lib.hid (HCL.out x)
      obtain ⟨xn, xd, xv⟩ := x
      simp only at d0 d1 d2 HC1
      have HBx := Lib.hid (belO wr (.cells #[.string xn, .int .i64 xd, .string xv] 44))
      have t0 : (wr.alloc (.cells #[.string xn, .int .i64 xd, .string xv] 44)).cell? ⟨wr.heap.size, 0, none⟩ = some (.string xn) := by rw [World.cell?_alloc_at _ _ _ _ rfl]; rfl
      have t1 : (wr.alloc (.cells #[.string xn, .int .i64 xd, .string xv] 44)).cell? ⟨wr.heap.size, 1, none⟩ = some (.int .i64 xd) := by rw [World.cell?_alloc_at _ _ _ _ rfl]; rfl
      have t2 : (wr.alloc (.cells #[.string xn, .int .i64 xd, .string xv] 44)).cell? ⟨wr.heap.size, 2, none⟩ = some (.string xv) := by rw [World.cell?_alloc_at _ _ _ _ rfl]; rfl
      have HW2 := Lib.hid (btO HW.out HBx.out)
      have HCx := Lib.hid (And.intro t0 (And.intro t1 (t2)))
      clear t0 t1 t2 HX HX0 HJ HA HCL
      cases hq : fxP n d (xn, xd, xv)
      · have HJ3 := Lib.hid (HJ2.out hq)
        rw [hq] at HC1
        clear HY HJ2 hq
        go_wp2_with (go_at_call 69; ((with_reducible refine (HC1.out _ HW2.out).mono ?_); rintro e w2 ⟨rfl, hb⟩; have HW3 := Lib.hid (btO HW2.out hb); clear hb))
        go_roundw
        case rel => exact ⟨k + 1, by omega, by go_num, HJ3, HW3⟩
        case measure => simp [intOf]; omega
      · obtain rfl := HY.out hq
        rw [hq] at HC1
        clear HY HJ2 hq
        go_wp2_with (go_at_call 69; ((with_reducible refine (HC1.out _ HW2.out).mono ?_); rintro e w2 ⟨rfl, hb⟩; have HW3 := Lib.hid (btO HW2.out hb); obtain ⟨t0, t1, t2⟩ := HCx.out; have u0 := cellO hb t0; have u1 := cellO hb t1; have u2 := cellO hb t2; have HR2 := Lib.hid ((HW3.out.block _ hlt1).trans HR.out); have r0 := row_cell (j := 0) HR2.out rfl; have f0 := row_frz (j := 0) HR2.out; have r1 := row_cell (j := 1) HR2.out rfl; have f1 := row_frz (j := 1) HR2.out; have r2 := row_cell (j := 2) HR2.out rfl; have f2 := row_frz (j := 2) HR2.out; clear hb t0 t1 t2))
        refine bodyPost_ret (v := .tuple #[.agg #[.string xn, .int .i64 xd, .string xv], .bool true]) (results_cell_tmp rfl _ _ w.heap.size 44 _ (0, 0) _ (.bool true) rfl rfl (sc3_row HR2.out) Tryz.underlying44 (by kernel_rfl) (by kernel_rfl)) rfl ?_
        exact ⟨rfl, btO (btO HB.out HW3.out) (Below.refl _ _) |>.trans (sc3_bel)⟩
    · obtain rfl : k = fs.length := by omega
      obtain rfl := HX0.out (fun j h => HJ.out j h h)
      have HR2 := Lib.hid ((HW.out.block _ hlt1).trans HR.out)
      have r0 := row_cell (j := 0) HR2.out rfl
      have f0 := row_frz (j := 0) HR2.out
      have r1 := row_cell (j := 1) HR2.out rfl
      have f1 := row_frz (j := 1) HR2.out
      have r2 := row_cell (j := 2) HR2.out rfl
      have f2 := row_frz (j := 2) HR2.out
      clear HX HX0 HJ
      go_wp2_with (fail)
      refine bodyPost_ret (v := .tuple #[.agg #[.string ⟨#[]⟩, .int .i64 0, .string ⟨#[]⟩], .bool false]) (results_cell_tmp rfl _ _ w.heap.size 44 _ (0, 0) _ (.bool false) rfl rfl (sc3_row HR2.out) Tryz.underlying44 (by kernel_rfl) (by kernel_rfl)) rfl ?_
      exact ⟨rfl, (btO HB.out HW.out).trans (sc3_bel)⟩
set_option maxRecDepth 100000 in
set_option maxHeartbeats 3200000 in
theorem pfind_anyO (E : Ev) (n : ByteArray) (d : Int) (w : World) (hin : E.In w) : Calls Tryz.prog 28 #[E.val, .string n, .int .i64 d] w (FndE (fndV E.fs n d) (fndB E.fs n d) w) := by
  obtain ⟨fA, fs, fc, cA, cs, cc⟩ := E
  have hI := hin.f
  have hl := hin.fl
  show Calls Tryz.prog 28 #[.agg #[.slice fA fs.length fc, .slice cA cs.length cc], .string n, .int .i64 d] w (FndE (fndV fs n d) (fndB fs n d) w)
  simp only at hI hl
  have HB1 := belO w (.cells #[.slice fA fs.length fc, .slice cA cs.length cc] 38)
  obtain ⟨w1, hw1⟩ : ∃ w1, w.alloc (.cells #[.slice fA fs.length fc, .slice cA cs.length cc] 38) = w1 := ⟨_, rfl⟩
  have hs1 : w1.heap.size = w.heap.size + 1 := by rw [← hw1, World.size_alloc]
  have a0 : w1.cell? ⟨w.heap.size, 0, none⟩ = some (.slice fA fs.length fc) := by rw [← hw1, World.cell?_alloc_at _ _ _ _ rfl]; rfl
  rw [hw1] at HB1
  have HB2 := belO w1 (.cells #[.string n] 9)
  obtain ⟨w2, hw2⟩ : ∃ w2, w1.alloc (.cells #[.string n] 9) = w2 := ⟨_, rfl⟩
  have hs2 : w2.heap.size = w.heap.size + 1 + 1 := by rw [← hw2, World.size_alloc, hs1]
  have b0 : w2.cell? ⟨w.heap.size + 1, 0, none⟩ = some (.string n) := by rw [← hw2, World.cell?_alloc_at _ _ _ _ hs1.symm]; rfl
  rw [hw2] at HB2
  have HB3 := belO w2 (.cells #[.int .i64 d] 3)
  obtain ⟨w3, hw3⟩ : ∃ w3, w2.alloc (.cells #[.int .i64 d] 3) = w3 := ⟨_, rfl⟩
  have c0 : w3.cell? ⟨w.heap.size + 1 + 1, 0, none⟩ = some (.int .i64 d) := by rw [← hw3, World.cell?_alloc_at _ _ _ _ hs2.symm]; rfl
  rw [hw3] at HB3
  have a1 := cellO HB3 (cellO HB2 a0)
  have b1 := cellO HB3 b0
  have HBB := btO (btO HB1 HB2) HB3
  have HF := Lib.hid (firstF_any n d fA fc fs (w.heap.size + 1) (w.heap.size + 1 + 1) w3 (hI.below HBB) hl b1 c0)
  have HB := Lib.hid HBB
  clear hin hI hl HB1 HB2 HB3 a0 b0 HBB
  unfold fndV fndB
  generalize fs.find? (fxP n d) = O at *
  cases O with
  | none =>
    go_enter Tryz.func28, Tryz.ntmps28
    go_wp2_with (go_at_call 68; ((with_reducible refine HF.out.mono ?_); rintro e w4 ⟨rfl, hb⟩; have HY := Lib.hid (btO HB.out hb); clear hb))
    go_ret2
    exact ⟨rfl, btO HY.out (belO _ _)⟩
  | some x =>
    obtain ⟨xn, xd, xv⟩ := x
    have HF2 : Hid (Calls Tryz.prog 68 #[.slice fA fs.length fc, .func (.func 69) #[] #[.pointer (some ⟨w.heap.size + 1, 0, none⟩), .pointer (some ⟨w.heap.size + 1 + 1, 0, none⟩)]] w3 fun e w' => e = .returned (.tuple #[.agg #[.string xn, .int .i64 xd, .string xv], .bool true]) ∧ Below w3.heap.size w3 w') := HF.out
    replace HF := HF2
    go_enter Tryz.func28, Tryz.ntmps28
    go_wp2_with (go_at_call 68; ((with_reducible refine HF.out.mono ?_); rintro e w4 ⟨rfl, hb⟩; have HY := Lib.hid (btO HB.out hb); clear hb))
    go_ret2
    exact ⟨rfl, btO HY.out (belO _ _)⟩
end Go.Proofs.YtbfimfjhdbpenaaGreatDoor
/- Layer 8: Valued and Held of the reference: a theorem for each way. -/
namespace Go.Proofs.YtbfimfjhdbpenaaGreatDoor
open Go Go.RowKit Go.BigFrame
structure RvG (Q : Nat) (k : Int) (r n : ByteArray) (d : Int) (A : Option Addr) (l c : Nat) (fA : Option Addr) (fl fc : Nat) (cA : Option Addr) (cl cc : Nat) (W : World) : Prop where
  c0 : W.cell? ⟨Q, 0, none⟩ = some (.int .u8 k)
  c1 : W.cell? ⟨Q, 1, none⟩ = some (.string r)
  c2 : W.cell? ⟨Q, 2, none⟩ = some (.string n)
  c3 : W.cell? ⟨Q, 3, none⟩ = some (.int .i64 d)
  c4 : W.cell? ⟨Q, 4, none⟩ = some (.slice A l c)
  e0 : W.cell? ⟨Q + 1, 0, none⟩ = some (.slice fA fl fc)
  e1 : W.cell? ⟨Q + 1, 1, none⟩ = some (.slice cA cl cc)
section
variable {Q : Nat} {k : Int} {r n : ByteArray} {d : Int} {A : Option Addr} {l c : Nat} {fA : Option Addr} {fl fc : Nat} {cA : Option Addr} {cl cc : Nat}
theorem RvG.below {W W' : World} (h : RvG Q k r n d A l c fA fl fc cA cl cc W) (hb : Below W.heap.size W W') : RvG Q k r n d A l c fA fl fc cA cl cc W' :=
  ⟨cellO hb h.c0, cellO hb h.c1, cellO hb h.c2, cellO hb h.c3, cellO hb h.c4, cellO hb h.e0, cellO hb h.e1⟩
theorem RvG.of (w : World) (t1 t2 : TypeId) : RvG w.heap.size k r n d A l c fA fl fc cA cl cc ((w.alloc (.cells #[.int .u8 k, .string r, .string n, .int .i64 d, .slice A l c] t1)).alloc (.cells #[.slice fA fl fc, .slice cA cl cc] t2)) := by
  have hb := belO (w.alloc (.cells #[.int .u8 k, .string r, .string n, .int .i64 d, .slice A l c] t1)) (.cells #[.slice fA fl fc, .slice cA cl cc] t2)
  have h1 : (w.alloc (.cells #[.int .u8 k, .string r, .string n, .int .i64 d, .slice A l c] t1)).heap[w.heap.size]? = some (.cells #[.int .u8 k, .string r, .string n, .int .i64 d, .slice A l c] t1 (0, 0)) := heap_alloc_new w _
  have h2 := heap_alloc_new (w.alloc (.cells #[.int .u8 k, .string r, .string n, .int .i64 d, .slice A l c] t1)) (.cells #[.slice fA fl fc, .slice cA cl cc] t2)
  rw [World.size_alloc] at h2
  exact ⟨cellO hb (row_cell (j := 0) h1 rfl), cellO hb (row_cell (j := 1) h1 rfl), cellO hb (row_cell (j := 2) h1 rfl), cellO hb (row_cell (j := 3) h1 rfl), cellO hb (row_cell (j := 4) h1 rfl), row_cell (j := 0) h2 rfl, row_cell (j := 1) h2 rfl⟩
end
theorem rv_begin (w : World) (k : Int) (r n : ByteArray) (d : Int) (A : Option Addr) (l c : Nat) (fA : Option Addr) (fl fc : Nat) (cA : Option Addr) (cl cc : Nat) :
    ∃ w1, (w.alloc (.cells #[.int .u8 k, .string r, .string n, .int .i64 d, .slice A l c] 26)).alloc (.cells #[.slice fA fl fc, .slice cA cl cc] 38) = w1 ∧ Below w.heap.size w w1 ∧ RvG w.heap.size k r n d A l c fA fl fc cA cl cc w1 :=
  ⟨_, rfl, btO (belO w _) (belO _ _), RvG.of w _ _⟩
structure PtC (b o : Nat) (t : Ex) (W : World) : Prop where
  p0 : W.cell? ⟨b, o, none⟩ = some (.int .u8 t.k)
  p1 : W.cell? ⟨b, o + 1, none⟩ = some (.string t.r)
  p2 : W.cell? ⟨b, o + 2, none⟩ = some (.string t.n)
  p3 : W.cell? ⟨b, o + 3, none⟩ = some (.int .i64 t.d)
  p4 : W.cell? ⟨b, o + 4, none⟩ = some (.slice t.A t.sub.length t.c)
theorem PtC.below {b o : Nat} {t : Ex} {W W' : World} (h : PtC b o t W) (hb : Below W.heap.size W W') : PtC b o t W' := ⟨cellO hb h.p0, cellO hb h.p1, cellO hb h.p2, cellO hb h.p3, cellO hb h.p4⟩
theorem Ex.In.ptc {w : World} {k : Int} {r n : ByteArray} {d : Int} {A : Option Addr} {c : Nat} {s : List Ex} (h : Ex.In w (.mk k r n d A c s)) (hs : 0 < s.length) : ∃ b o, A = some ⟨b, o, none⟩ ∧ ∀ j (hj : j < s.length), s[j].In w ∧ PtC b (o + j * 5) s[j] w := by
  obtain ⟨b, o, h1, -, -, -⟩ := h.part hs
  refine ⟨b, o, h1, fun j hj => ?_⟩
  obtain ⟨b', o', h1', -, h3, q0, q1, q2, q3, q4⟩ := h.part hj
  rw [h1] at h1'
  injection h1' with h1'
  injection h1' with g1 g2 _
  subst g1 g2
  exact ⟨h3, q0, q1, q2, q3, q4⟩
theorem PtC.zs {b o : Nat} {t : Ex} {W : World} (h : PtC b o t W) :
    (∀ z : Bel W, z.1.cell? ⟨b, o, none⟩ = some (.int .u8 t.k)) ∧ (∀ z : Bel W, z.1.cell? ⟨b, o + 1, none⟩ = some (.string t.r)) ∧ (∀ z : Bel W, z.1.cell? ⟨b, o + 2, none⟩ = some (.string t.n)) ∧ (∀ z : Bel W, z.1.cell? ⟨b, o + 3, none⟩ = some (.int .i64 t.d)) ∧ (∀ z : Bel W, z.1.cell? ⟨b, o + 4, none⟩ = some (.slice t.A t.sub.length t.c)) :=
  ⟨fun z => z.cell h.p0, fun z => z.cell h.p1, fun z => z.cell h.p2, fun z => z.cell h.p3, fun z => z.cell h.p4⟩
theorem Ex.In.ptc1 {w : World} {k : Int} {r n : ByteArray} {d : Int} {A : Option Addr} {c : Nat} {x : Ex} (h : Ex.In w (.mk k r n d A c [x])) : ∃ b o, A = some ⟨b, o, none⟩ ∧ x.In w ∧ PtC b o x w := by
  obtain ⟨b, o, h1, h2⟩ := h.ptc (by simp)
  exact ⟨b, o, h1, (h2 0 (by simp)).1, by simpa using (h2 0 (by simp)).2⟩
theorem Ex.In.ptc2 {w : World} {k : Int} {r n : ByteArray} {d : Int} {A : Option Addr} {c : Nat} {x y : Ex} (h : Ex.In w (.mk k r n d A c [x, y])) : ∃ b o, A = some ⟨b, o, none⟩ ∧ x.In w ∧ PtC b o x w ∧ y.In w ∧ PtC b (o + 5) y w := by
  obtain ⟨b, o, h1, h2⟩ := h.ptc (by simp)
  exact ⟨b, o, h1, (h2 0 (by simp)).1, by simpa using (h2 0 (by simp)).2, (h2 1 (by simp)).1, by simpa using (h2 1 (by simp)).2⟩
theorem Ex.In.ptc3 {w : World} {k : Int} {r n : ByteArray} {d : Int} {A : Option Addr} {c : Nat} {x y z : Ex} (h : Ex.In w (.mk k r n d A c [x, y, z])) : ∃ b o, A = some ⟨b, o, none⟩ ∧ x.In w ∧ PtC b o x w ∧ y.In w ∧ PtC b (o + 5) y w ∧ z.In w ∧ PtC b (o + 10) z w := by
  obtain ⟨b, o, h1, h2⟩ := h.ptc (by simp)
  exact ⟨b, o, h1, (h2 0 (by simp)).1, by simpa using (h2 0 (by simp)).2, (h2 1 (by simp)).1, by simpa using (h2 1 (by simp)).2, (h2 2 (by simp)).1, by simpa using (h2 2 (by simp)).2⟩
def TrE (b : Bool) (c : Int) (w : World) (e : Ending) (w' : World) : Prop := e = .returned (.tuple #[.bool b, .int .i64 c]) ∧ Below w.heap.size w w'
end Go.Proofs.YtbfimfjhdbpenaaGreatDoor
/- Layer 8: Valued of the reference, on each way. -/
namespace Go.Proofs.YtbfimfjhdbpenaaGreatDoor
open Go Go.RowKit Go.BigFrame
end Go.Proofs.YtbfimfjhdbpenaaGreatDoor
/- Layer 8: Held of the reference, on each way. -/
namespace Go.Proofs.YtbfimfjhdbpenaaGreatDoor
open Go Go.RowKit Go.BigFrame
end Go.Proofs.YtbfimfjhdbpenaaGreatDoor
/- Layer 8: Valued of the reference, on each way: two numbers. -/
namespace Go.Proofs.YtbfimfjhdbpenaaGreatDoor
open Go Go.RowKit Go.BigFrame
end Go.Proofs.YtbfimfjhdbpenaaGreatDoor
/- Layer 8: Valued and Held of the reference. -/
namespace Go.Proofs.YtbfimfjhdbpenaaGreatDoor
open Go Go.RowKit
theorem ne_decO {e : Int} (h : ¬ e = 0) : (e != 0) = true := bne_iff_ne.2 h
end Go.Proofs.YtbfimfjhdbpenaaGreatDoor

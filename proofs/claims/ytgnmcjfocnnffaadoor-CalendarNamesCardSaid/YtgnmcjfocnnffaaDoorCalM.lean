/- Layer 4: the chapter's example. -/
import Derived.Test.YtgnmcjfocnnffaaDoorCalG
import Derived.Test.YtgnmcjfocnnffaaDoorDatH
import Derived.Test.YtgnmcjfocnnffaaDoorDatI
namespace Go.Proofs.YtgnmcjfocnnffaaDoor
open Go Go.RowKit

theorem fwO_step (p : Int → Bool) (d n : Int) (h0 : 0 ≤ d) (h1 : d ≤ 99999) : fwO p d n = if p d then (if n - 1 = 0 then some d else fwO p (d + 1) (n - 1)) else fwO p (d + 1) n := by
  unfold fwO
  obtain ⟨k, hk⟩ : ∃ k : Nat, (100000 - d).toNat = k + 1 := ⟨(100000 - d).toNat - 1, by omega⟩
  have hk' : (100000 - (d + 1)).toNat = k := by omega
  rw [hk, hk']; rfl
theorem bwO_step (p : Int → Bool) (d n : Int) (h0 : 0 ≤ d) : bwO p d n = if p d then (if n - 1 = 0 then some d else bwO p (d - 1) (n - 1)) else bwO p (d - 1) n := by
  unfold bwO
  obtain ⟨k, hk⟩ : ∃ k : Nat, (d + 1).toNat = k + 1 := ⟨(d + 1).toNat - 1, by omega⟩
  have hk' : (d - 1 + 1).toNat = k := by omega
  rw [hk, hk']; rfl
theorem fwO_hit {p : Int → Bool} {d : Int} (h : (decide (0 ≤ d) && decide (d ≤ 99999) && p d) = true) : fwO p d 1 = some d := by
  simp only [Bool.and_eq_true, decide_eq_true_eq] at h
  rw [fwO_step p d 1 h.1.1 h.1.2, if_pos h.2, if_pos (by decide)]
theorem fwO_miss {p : Int → Bool} {d n : Int} (d' : Int) (r : Option Int) (h : (decide (0 ≤ d) && decide (d ≤ 99999) && !p d && decide (d' = d + 1)) = true) (hr : fwO p d' n = r) : fwO p d n = r := by
  simp only [Bool.and_eq_true, decide_eq_true_eq, Bool.not_eq_true'] at h
  rw [fwO_step p d n h.1.1.1 h.1.1.2, if_neg (by rw [h.1.2]; decide), ← h.2]; exact hr
theorem fwO_end (p : Int → Bool) (n : Int) : fwO p 100000 n = none := rfl
theorem bwO_hit {p : Int → Bool} {d : Int} (h : (decide (0 ≤ d) && p d) = true) : bwO p d 1 = some d := by
  simp only [Bool.and_eq_true, decide_eq_true_eq] at h
  rw [bwO_step p d 1 h.1, if_pos h.2, if_pos (by decide)]
theorem bwO_miss {p : Int → Bool} {d n : Int} (d' : Int) (r : Option Int) (h : (decide (0 ≤ d) && !p d && decide (d' = d - 1)) = true) (hr : bwO p d' n = r) : bwO p d n = r := by
  simp only [Bool.and_eq_true, decide_eq_true_eq, Bool.not_eq_true'] at h
  rw [bwO_step p d n h.1.1, if_neg (by rw [h.1.2]; decide), ← h.2]; exact hr
theorem bwO_end (p : Int → Bool) (n : Int) : bwO p (-1) n = none := rfl
/-- The count of the k days from a on. -/
def cntK (p : Int → Bool) (a : Int) : Nat → Int
  | 0 => 0
  | k + 1 => cntK p a k + (if p (a + k) then 1 else 0)
theorem cntV_K (p : Int → Bool) (a : Int) (k : Nat) (h0 : 0 ≤ a) : cntV p a (a + k) = cntK p a k := by
  induction k with
  | zero => simp [cntV, cntK]
  | succ k ih =>
    have e : a + ((k + 1 : Nat) : Int) = a + k + 1 := by omega
    have := cumI_succ p (a + k) (by omega)
    unfold cntV at *
    rw [cntK, ← ih, e, this]; omega

/-- The example's business days. -/
def exB : Int → Bool := bizB 96 [46413]
theorem ex_val : valB 96 [46413] = true := by decide
theorem ex_chk (ds : List Int) (h : ds.all dayB = true) : chkE 96 [46413] ds = 0 := by unfold chkE; rw [ex_val, h]; rfl
theorem ex_chk_bad (ds : List Int) (h : ds.all dayB = false) : chkE 96 [46413] ds = 2 := by unfold chkE; rw [ex_val, h]; rfl

set_option maxHeartbeats 800000 in
theorem example_any (w : World) :
    Calls Tryd.prog 10 #[] w fun e w' => (∃ B, e = .returned (.agg #[.int .u8 96, .slice (some ⟨B, 0, none⟩) 1 1]) ∧ HsA w' (some ⟨B, 0, none⟩) [46413]) ∧ Below w.heap.size w w' := by
  go_enter Tryd.func10, Tryd.ntmps10
  go_wp2
  obtain ⟨W1, hW1⟩ : ∃ W1, (w.alloc (.cells #[.int .u8 96, .slice (some ⟨w.heap.size + 1, 0, none⟩) 1 1] 24)).alloc (.cells #[.int .i64 46413] 3) = W1 := ⟨_, rfl⟩
  have hb : Below w.heap.size w W1 := by rw [← hW1]; exact bel2 _ _ _
  have hh : HsA W1 (some ⟨w.heap.size + 1, 0, none⟩) [46413] := by
    have := hs_new (w.alloc (.cells #[.int .u8 96, .slice (some ⟨w.heap.size + 1, 0, none⟩) 1 1] 24)) [46413] 3
    rw [World.size_alloc] at this
    rw [← hW1]; exact this
  have hr : W1.heap[w.heap.size]? = some (.cells #[.int .u8 96, .slice (some ⟨w.heap.size + 1, 0, none⟩) 1 1] 24 (0, 0)) := by
    rw [← hW1]
    exact (Below.heap_alloc _ _ _ (by simp)).trans (heap_alloc_new _ _)
  rw [hW1]
  refine bodyPost_ret (v := .agg #[.int .u8 96, .slice (some ⟨w.heap.size + 1, 0, none⟩) 1 1]) (results_cell_row rfl _ W1 w.heap.size 24 _ (0, 0) _ rfl hr Tryd.underlying24 (by kernel_rfl) (by kernel_rfl)) rfl ⟨⟨_, rfl, hh⟩, hb⟩

section
variable (A : Option Addr) (c : Nat)
theorem ex_in {w : World} (h : HsA w A [46413]) : CalIn w 96 A c [46413] := ⟨by decide, by decide, h, by decide, fun e => by subst e; obtain ⟨b, o, h1, _⟩ := h.get (j := 0) (by decide); cases h1⟩
theorem ex_roll (S : Int → Bool) (day r : Int) (o : Option Int) (v e : Int) (w : World) (h : HsA w A [46413]) (hV : VarD w) (hS : SmIs day S) (hd : ([day].all dayB && decide (0 ≤ r) && decide (r ≤ 4)) = true) (ho : rolO S exB r day = o) (hv : nV o = v) (he : nE o = e) :
    Calls Tryd.prog 12 #[.agg #[.int .u8 96, .slice A 1 c], .int .i64 day, .int .u8 r] w fun x w' => x = .returned (.tuple #[.int .i64 v, .int .i64 e]) ∧ Below w.heap.size w w' := by
  rw [Bool.and_eq_true, Bool.and_eq_true, decide_eq_true_eq, decide_eq_true_eq] at hd
  refine roll_any 96 A c [46413] S day r v e w (ex_in A c h) hd.1.2 (fun _ => hS) hV ?_ ?_
  · unfold rlV; rw [ex_chk [day] hd.1.1, if_pos rfl, if_pos hd.2, ← hv, ← ho]; rfl
  · unfold rlE; rw [ex_chk [day] hd.1.1, if_pos rfl, if_pos hd.2, ← he, ← ho]; rfl
theorem ex_add (day n : Int) (o : Option Int) (v e : Int) (w : World) (h : HsA w A [46413]) (hV : VarD w) (hd : ([day].all dayB && inB n) = true) (ho : adO exB day n = o) (hv : nV o = v) (he : nE o = e) :
    Calls Tryd.prog 13 #[.agg #[.int .u8 96, .slice A 1 c], .int .i64 day, .int .i64 n] w fun x w' => x = .returned (.tuple #[.int .i64 v, .int .i64 e]) ∧ Below w.heap.size w w' := by
  rw [Bool.and_eq_true] at hd
  have hn := hd.2
  simp only [inB, Bool.and_eq_true, decide_eq_true_eq] at hn
  refine add_any 96 A c [46413] day n v e w (ex_in A c h) (by omega) (by omega) hV ?_ ?_
  · unfold adV; rw [ex_chk [day] hd.1, if_pos rfl, if_pos hd.2, ← hv, ← ho]; rfl
  · unfold adE; rw [ex_chk [day] hd.1, if_pos rfl, if_pos hd.2, ← he, ← ho]; rfl
theorem ex_count (a b v : Int) (w : World) (h : HsA w A [46413]) (hd : [a, b].all dayB = true) (hv : cntV exB a b = v) :
    Calls Tryd.prog 14 #[.agg #[.int .u8 96, .slice A 1 c], .int .i64 a, .int .i64 b] w fun x w' => x = .returned (.tuple #[.int .i64 v, .int .i64 0]) ∧ Below w.heap.size w w' := by
  refine count_any 96 A c [46413] a b v 0 w (ex_in A c h) ?_ (ex_chk [a, b] hd)
  unfold coV; rw [ex_chk [a, b] hd, if_pos rfl, ← hv]; rfl
end
theorem rolO_1 (S p : Int → Bool) (day : Int) : rolO S p 1 day = fwO p day 1 := rfl
theorem rolO_2 (S p : Int → Bool) (day : Int) : rolO S p 2 day = bwO p day 1 := rfl
theorem rolO_3 (S p : Int → Bool) (day : Int) : rolO S p 3 day = keepO S (fwO p day 1) (bwO p day 1) := rfl
theorem rolO_4 (S p : Int → Bool) (day : Int) : rolO S p 4 day = keepO S (bwO p day 1) (fwO p day 1) := rfl
theorem adO_1 (p : Int → Bool) (day : Int) : adO p day 1 = fwO p (day + 1) 1 := rfl
theorem adO_0 (p : Int → Bool) (day : Int) : adO p day 0 = fwO p day 1 := rfl
theorem adO_m1 (p : Int → Bool) (day : Int) : adO p day (-1) = bwO p (day - 1) 1 := rfl
theorem ex_jan31 : IsDate 2027 1 31 46416 := isDate_mk (by decide)
theorem ex_feb1 : IsDate 2027 2 1 46417 := isDate_mk (by decide)
theorem ex_jan28 : IsDate 2027 1 28 46413 := isDate_mk (by decide)
theorem ex_r1 : fwO exB 46416 1 = some 46417 := fwO_miss 46417 _ (by decide) (fwO_hit (by decide))
theorem ex_r2 : bwO exB 46416 1 = some 46414 := bwO_miss 46415 _ (by decide) (bwO_miss 46414 _ (by decide) (bwO_hit (by decide)))
theorem ex_r3 {S : Int → Bool} (hS : SmIs 46416 S) : rolO S exB 3 46416 = some 46414 := by
  have h : S 46417 = false := by rw [hS _ _ _ _ _ _ _ ex_jan31 ex_feb1]; decide
  rw [rolO_3, ex_r1, ex_r2]
  simp [keepO, h]
theorem ex_a1 : adO exB 46412 1 = some 46414 := by
  rw [adO_1, show (46412 : Int) + 1 = 46413 by decide]
  exact fwO_miss 46414 _ (by decide) (fwO_hit (by decide))
theorem ex_c4 : cntV exB 46411 46418 = 4 := by
  rw [show (46418 : Int) = 46411 + ((7 : Nat) : Int) from rfl, cntV_K _ _ _ (by decide)]; decide

theorem calNew1 {w : World} {A : Option Addr} {x : Int} (we : Int) (c : Nat) (h : HsA w A [x]) : CalAt (w.alloc (.cells #[.int .u8 we, .slice A 1 c] 24)) w.heap.size we A c [x] := CalAt.new h
theorem c1_one {w : World} {B : Nat} {we : Int} {A : Option Addr} {c : Nat} {x : Int} (h : CalAt w B we A c [x]) : w.cell? ⟨B, 1, none⟩ = some (.slice A 1 c) := h.c1
set_option maxRecDepth 100000 in
set_option maxHeartbeats 3200000 in
theorem calive_any (w : World) (hv : VarS w) :
    Calls Tryd.prog 17 #[] w fun e w' => e = .returned (.bool true) ∧ Below w.heap.size w w' := by
  obtain ⟨S, hS⟩ := smIs_ex 46416 (by decide)
  have HE := Lib.hid (example_any w)
  have H1 := Lib.hid fun A w (h : HsA w A [46413]) (hv : VarS w) => ex_roll A 1 S 46416 1 _ 46417 0 w h hv.d hS (by decide) ((rolO_1 _ _ _).trans ex_r1) rfl rfl
  have H2 := Lib.hid fun A w (h : HsA w A [46413]) (hv : VarS w) => ex_roll A 1 S 46416 2 _ 46414 0 w h hv.d hS (by decide) ((rolO_2 _ _ _).trans ex_r2) rfl rfl
  have H3 := Lib.hid fun A w (h : HsA w A [46413]) (hv : VarS w) => ex_roll A 1 S 46416 3 _ 46414 0 w h hv.d hS (by decide) (ex_r3 hS) rfl rfl
  have HA := Lib.hid fun A w (h : HsA w A [46413]) (hv : VarS w) => ex_add A 1 46412 1 _ 46414 0 w h hv.d (by decide) ex_a1 rfl rfl
  have HC := Lib.hid fun A w (h : HsA w A [46413]) => ex_count A 1 46411 46418 4 w h (by decide) ex_c4
  have HT := Lib.hid fun w (hv : VarS w) => text_at 2027 1 28 46413 [50, 48, 50, 55, 45, 48, 49, 45, 50, 56] ex_jan28 (by decide) (by decide) w hv
  have HV := Lib.hid hv
  clear hv hS
  go_enter Tryd.func17, Tryd.ntmps17
  go_wp2_with (first
    | (go_at_call 10; ((with_reducible refine HE.out.mono ?_); rintro x w1 ⟨⟨B, rfl, hh⟩, hb⟩; have B1 := Lib.hid (bt hb (bel1 w1 (.cells #[.int .u8 96, .slice (some ⟨B, 0, none⟩) 1 1] 24))); have C1 := Lib.hid (calNew1 96 1 hh); clear hb hh))
    | (go_at_call 12; ((with_reducible refine (H1.out _ _ C1.out.hs (HV.out.below B1.out)).mono ?_); rintro x w2 ⟨rfl, hb⟩; have B2 := Lib.hid (bt B1.out hb); have C2 := Lib.hid (C1.out.below hb); have k0 := C2.out.c0; have k1 := c1_one C2.out; clear hb))
    | (go_at_call 12; ((with_reducible refine (H3.out _ _ C2.out.hs (HV.out.below B2.out)).mono ?_); rintro x w3 ⟨rfl, hb⟩; have B3 := Lib.hid (bt B2.out hb); have C3 := Lib.hid (C2.out.below hb); have k0 := C3.out.c0; have k1 := c1_one C3.out; clear hb))
    | (go_at_call 12; ((with_reducible refine (H2.out _ _ C3.out.hs (HV.out.below B3.out)).mono ?_); rintro x w4 ⟨rfl, hb⟩; have B4 := Lib.hid (bt B3.out hb); have C4 := Lib.hid (C3.out.below hb); have k0 := C4.out.c0; have k1 := c1_one C4.out; clear hb))
    | (go_at_call 13; ((with_reducible refine (HA.out _ _ C4.out.hs (HV.out.below B4.out)).mono ?_); rintro x w5 ⟨rfl, hb⟩; have B5 := Lib.hid (bt B4.out hb); have C5 := Lib.hid (C4.out.below hb); have k0 := C5.out.c0; have k1 := c1_one C5.out; clear hb))
    | (go_at_call 14; ((with_reducible refine (HC.out _ _ C5.out.hs).mono ?_); rintro x w6 ⟨rfl, hb⟩; have B6 := Lib.hid (bt B5.out hb); have C6 := Lib.hid (C5.out.below hb); have k0 := C6.out.c0; have k1 := c1_one C6.out; clear hb))
    | (go_at_call 31; ((with_reducible refine (HT.out _ (HV.out.below B6.out)).mono ?_); rintro x w7 ⟨rfl, hb⟩; have B7 := Lib.hid (bt B6.out hb); clear hb)))
  go_ret
  exact ⟨rfl, B7.out⟩
end Go.Proofs.YtgnmcjfocnnffaaDoor

/- The walk of the law CalendarNames. -/
import Derived.Test.YtgnmcjfocnnffaaDoorCalL9
namespace Go.Proofs.YtgnmcjfocnnffaaDoor
open Go Go.RowKit

theorem nm_roll (we : Int) (hs : List Int) (A : Option Addr) (c : Nat) (day r : Int) (o : Option Int) (v e : Int) (w : World) (h : CalIn w we A c hs) (hV : VarD w) (hc : chkE we hs [day] = 0) (hr : (decide (0 ≤ r) && decide (r ≤ 4) && decide (0 ≤ day)) = true) (ho : ∀ S, SmIs day S → rolO S (bizB we hs) r day = o) (hv : nV o = v) (he : nE o = e) :
    Calls Tryd.prog 12 #[.agg #[.int .u8 we, .slice A hs.length c], .int .i64 day, .int .u8 r] w fun x w' => x = .returned (.tuple #[.int .i64 v, .int .i64 e]) ∧ Below w.heap.size w w' := by
  rw [Bool.and_eq_true, Bool.and_eq_true, decide_eq_true_eq, decide_eq_true_eq, decide_eq_true_eq] at hr
  obtain ⟨S, hS⟩ := smIs_ex day hr.2
  refine roll_any we A c hs S day r v e w h hr.1.1 (fun _ => hS) hV ?_ ?_
  · unfold rlV; rw [hc, if_pos rfl, if_pos hr.1.2, ← hv, ← ho S hS]
  · unfold rlE; rw [hc, if_pos rfl, if_pos hr.1.2, ← he, ← ho S hS]
theorem nm_in {w : World} {B : Nat} {we : Int} {x : Int} (h : HsA w (some ⟨B, 0, none⟩) [x]) (hw : (decide (0 ≤ we) && decide (we ≤ 255)) = true) : CalIn w we (some ⟨B, 0, none⟩) 1 [x] := by
  rw [Bool.and_eq_true, decide_eq_true_eq, decide_eq_true_eq] at hw
  exact ⟨hw.1, hw.2, h, by show 1 ≤ 9223372036854775807; decide, fun e => by cases e⟩
theorem nm_in2 {w : World} {B : Nat} {we : Int} {x y : Int} (h : HsA w (some ⟨B, 0, none⟩) [x, y]) (hw : (decide (0 ≤ we) && decide (we ≤ 255)) = true) : CalIn w we (some ⟨B, 0, none⟩) 2 [x, y] := by
  rw [Bool.and_eq_true, decide_eq_true_eq, decide_eq_true_eq] at hw
  exact ⟨hw.1, hw.2, h, by show 2 ≤ 9223372036854775807; decide, fun e => by cases e⟩
theorem nm_in0 {w : World} {we : Int} (hw : (decide (0 ≤ we) && decide (we ≤ 255)) = true) : CalIn w we none 0 [] := by
  rw [Bool.and_eq_true, decide_eq_true_eq, decide_eq_true_eq] at hw
  exact ⟨hw.1, hw.2, .inl rfl, by decide, fun _ => rfl⟩
theorem nm_new1 (w : World) (x : Int) : HsA (w.alloc (.cells #[.int .i64 x] 3)) (some ⟨w.heap.size, 0, none⟩) [x] := hs_new w [x] 3
theorem nm_new2 (w : World) (x y : Int) : HsA (w.alloc (.cells #[.int .i64 x, .int .i64 y] 3)) (some ⟨w.heap.size, 0, none⟩) [x, y] := hs_new w [x, y] 3
theorem nm_new3 (w : World) (o : Obj) (x y : Int) : HsA ((w.alloc o).alloc (.cells #[.int .i64 x, .int .i64 y] 3)) (some ⟨w.heap.size + 1, 0, none⟩) [x, y] := by
  have := nm_new2 (w.alloc o) x y
  rwa [World.size_alloc] at this
theorem uni_ex : uniL [46413] [5, 46413] = [5, 46413] :=
  strict_ext (uniL_spec _ _).1 (by simp) (fun a => by rw [(uniL_spec _ _).2]; simp only [List.mem_cons, List.not_mem_nil, or_false]; omega)
theorem nm_c4 : cntV exB 46418 46411 = -4 := by
  have h := ex_c4
  unfold cntV at h ⊢
  omega
def RetT (v e : Int) (w : World) (x : Ending) (w' : World) : Prop := x = .returned (.tuple #[.int .i64 v, .int .i64 e]) ∧ Below w.heap.size w w'

theorem nm_b1 (A : Option Addr) (w : World) (h : HsA w A [46413]) : Calls Tryd.prog 11 #[.agg #[.int .u8 96, .slice A 1 1], .int .i64 46412] w fun x w' => x = .returned (.tuple #[.bool true, .int .i64 0]) ∧ Below w.heap.size w w' := by
  exact business_any 96 A 1 [46413] 46412 true 0 w (ex_in A 1 h) (ex_chk [46412] (by decide)) (.inl ⟨rfl, by decide⟩)

theorem nm_b2 (A : Option Addr) (w : World) (h : HsA w A [46413]) : Calls Tryd.prog 11 #[.agg #[.int .u8 96, .slice A 1 1], .int .i64 46413] w fun x w' => x = .returned (.tuple #[.bool false, .int .i64 0]) ∧ Below w.heap.size w w' := by
  exact business_any 96 A 1 [46413] 46413 false 0 w (ex_in A 1 h) (ex_chk [46413] (by decide)) (.inl ⟨rfl, by decide⟩)

theorem nm_b3 (A : Option Addr) (w : World) (h : HsA w A [46413]) : Calls Tryd.prog 11 #[.agg #[.int .u8 96, .slice A 1 1], .int .i64 46415] w fun x w' => x = .returned (.tuple #[.bool false, .int .i64 0]) ∧ Below w.heap.size w w' := by
  exact business_any 96 A 1 [46413] 46415 false 0 w (ex_in A 1 h) (ex_chk [46415] (by decide)) (.inl ⟨rfl, by decide⟩)

theorem nm_b4 (A : Option Addr) (w : World) (h : HsA w A [46413]) : Calls Tryd.prog 11 #[.agg #[.int .u8 96, .slice A 1 1], .int .i64 100000] w fun x w' => x = .returned (.tuple #[.bool false, .int .i64 2]) ∧ Below w.heap.size w w' := by
  exact business_any 96 A 1 [46413] 100000 false 2 w (ex_in A 1 h) (ex_chk_bad [100000] (by decide)) (.inr ⟨by decide, rfl⟩)

theorem nm_r5 (A : Option Addr) (w : World) (h : HsA w A [46413]) (hV : VarD w) : Calls Tryd.prog 12 #[.agg #[.int .u8 96, .slice A 1 1], .int .i64 0, .int .u8 5] w fun x w' => x = .returned (.tuple #[.int .i64 0, .int .i64 2]) ∧ Below w.heap.size w w' := by
  obtain ⟨S, hS⟩ := smIs_ex 0 (by decide)
  refine roll_any 96 A 1 [46413] S 0 5 0 2 w (ex_in A 1 h) (by decide) (fun _ => hS) hV ?_ ?_
  · unfold rlV; rw [ex_chk [0] (by decide), if_pos rfl, if_neg (by decide)]
  · unfold rlE; rw [ex_chk [0] (by decide), if_pos rfl, if_neg (by decide)]

theorem nm_f0 : fwO (bizB 0 [0]) 0 1 = some 1 := fwO_miss 1 _ (by decide) (fwO_hit (by decide))
theorem nm_p0 : bwO (bizB 0 [0]) 0 1 = none := bwO_miss (-1) _ (by decide) (bwO_end _ _)
theorem nm_f9 : fwO (bizB 0 [99999]) 99999 1 = none := fwO_miss 100000 _ (by decide) (fwO_end _ _)
theorem nm_p9 : bwO (bizB 0 [99999]) 99999 1 = some 99998 := bwO_miss 99998 _ (by decide) (bwO_hit (by decide))

theorem nm_r6 (B : Nat) (w : World) (h : HsA w (some ⟨B, 0, none⟩) [0]) (hV : VarD w) : Calls Tryd.prog 12 #[.agg #[.int .u8 0, .slice (some ⟨B, 0, none⟩) 1 1], .int .i64 0, .int .u8 4] w fun x w' => x = .returned (.tuple #[.int .i64 1, .int .i64 0]) ∧ Below w.heap.size w w' := by
  exact nm_roll 0 [0] (some ⟨B, 0, none⟩) 1 0 4 (some 1) 1 0 w (nm_in h (by decide)) hV (by decide) (by decide) (fun S hS => by rw [rolO_4, nm_p0, nm_f0]; rfl) rfl rfl

theorem nm_r7 (B : Nat) (w : World) (h : HsA w (some ⟨B, 0, none⟩) [0]) (hV : VarD w) : Calls Tryd.prog 12 #[.agg #[.int .u8 0, .slice (some ⟨B, 0, none⟩) 1 1], .int .i64 0, .int .u8 2] w fun x w' => x = .returned (.tuple #[.int .i64 0, .int .i64 40]) ∧ Below w.heap.size w w' := by
  exact nm_roll 0 [0] (some ⟨B, 0, none⟩) 1 0 2 (none) 0 40 w (nm_in h (by decide)) hV (by decide) (by decide) (fun S hS => by rw [rolO_2, nm_p0]) rfl rfl

theorem nm_r8 (B : Nat) (w : World) (h : HsA w (some ⟨B, 0, none⟩) [99999]) (hV : VarD w) : Calls Tryd.prog 12 #[.agg #[.int .u8 0, .slice (some ⟨B, 0, none⟩) 1 1], .int .i64 99999, .int .u8 1] w fun x w' => x = .returned (.tuple #[.int .i64 0, .int .i64 40]) ∧ Below w.heap.size w w' := by
  exact nm_roll 0 [99999] (some ⟨B, 0, none⟩) 1 99999 1 (none) 0 40 w (nm_in h (by decide)) hV (by decide) (by decide) (fun S hS => by rw [rolO_1, nm_f9]) rfl rfl

theorem nm_r9 (B : Nat) (w : World) (h : HsA w (some ⟨B, 0, none⟩) [99999]) (hV : VarD w) : Calls Tryd.prog 12 #[.agg #[.int .u8 0, .slice (some ⟨B, 0, none⟩) 1 1], .int .i64 99999, .int .u8 3] w fun x w' => x = .returned (.tuple #[.int .i64 99998, .int .i64 0]) ∧ Below w.heap.size w w' := by
  exact nm_roll 0 [99999] (some ⟨B, 0, none⟩) 1 99999 3 (some 99998) 99998 0 w (nm_in h (by decide)) hV (by decide) (by decide) (fun S hS => by rw [rolO_3, nm_f9, nm_p9]; rfl) rfl rfl

theorem nm_r10 (A : Option Addr) (w : World) (h : HsA w A [46413]) (hV : VarD w) : Calls Tryd.prog 12 #[.agg #[.int .u8 96, .slice A 1 1], .int .i64 46413, .int .u8 0] w fun x w' => x = .returned (.tuple #[.int .i64 46413, .int .i64 0]) ∧ Below w.heap.size w w' := by
  exact nm_roll 96 [46413] A 1 46413 0 (some 46413) 46413 0 w (ex_in A 1 h) hV (ex_chk [46413] (by decide)) (by decide) (fun S hS => rfl) rfl rfl

theorem nm_a1 (A : Option Addr) (w : World) (h : HsA w A [46413]) (hV : VarD w) : Calls Tryd.prog 13 #[.agg #[.int .u8 96, .slice A 1 1], .int .i64 5, .int .i64 100000] w fun x w' => x = .returned (.tuple #[.int .i64 0, .int .i64 2]) ∧ Below w.heap.size w w' := by
  refine add_any 96 A 1 [46413] 5 100000 0 2 w (ex_in A 1 h) (by decide) (by decide) hV ?_ ?_
  · unfold adV; rw [ex_chk [5] (by decide), if_pos rfl, if_neg (by decide)]
  · unfold adE; rw [ex_chk [5] (by decide), if_pos rfl, if_neg (by decide)]

theorem nm_o2 : adO exB 99999 1 = none := by
  rw [adO_1, show (99999 : Int) + 1 = 100000 by decide]
  exact fwO_end _ _
theorem nm_o3 : adO exB 0 (-1) = none := by
  rw [adO_m1, show (0 : Int) - 1 = -1 by decide]
  exact bwO_end _ _
theorem nm_o4 : adO exB 46415 0 = some 46417 := by
  rw [adO_0]
  exact fwO_miss 46416 _ (by decide) (fwO_miss 46417 _ (by decide) (fwO_hit (by decide)))

theorem nm_a2 (A : Option Addr) (w : World) (h : HsA w A [46413]) (hV : VarD w) : Calls Tryd.prog 13 #[.agg #[.int .u8 96, .slice A 1 1], .int .i64 99999, .int .i64 1] w fun x w' => x = .returned (.tuple #[.int .i64 0, .int .i64 40]) ∧ Below w.heap.size w w' := by
  exact ex_add A 1 99999 1 _ 0 40 w h hV (by decide) nm_o2 rfl rfl

theorem nm_a3 (A : Option Addr) (w : World) (h : HsA w A [46413]) (hV : VarD w) : Calls Tryd.prog 13 #[.agg #[.int .u8 96, .slice A 1 1], .int .i64 0, .int .i64 (-1)] w fun x w' => x = .returned (.tuple #[.int .i64 0, .int .i64 40]) ∧ Below w.heap.size w w' := by
  exact ex_add A 1 0 (-1) _ 0 40 w h hV (by decide) nm_o3 rfl rfl

theorem nm_a4 (A : Option Addr) (w : World) (h : HsA w A [46413]) (hV : VarD w) : Calls Tryd.prog 13 #[.agg #[.int .u8 96, .slice A 1 1], .int .i64 46415, .int .i64 0] w fun x w' => x = .returned (.tuple #[.int .i64 46417, .int .i64 0]) ∧ Below w.heap.size w w' := by
  exact ex_add A 1 46415 0 _ 46417 0 w h hV (by decide) nm_o4 rfl rfl

theorem nm_k1 (A : Option Addr) (w : World) (h : HsA w A [46413]) : Calls Tryd.prog 14 #[.agg #[.int .u8 96, .slice A 1 1], .int .i64 46418, .int .i64 46411] w fun x w' => x = .returned (.tuple #[.int .i64 (-4), .int .i64 0]) ∧ Below w.heap.size w w' := by
  exact ex_count A 1 46418 46411 (-4) w h (by decide) nm_c4

theorem nm_k2 (A : Option Addr) (w : World) (h : HsA w A [46413]) : Calls Tryd.prog 14 #[.agg #[.int .u8 96, .slice A 1 1], .int .i64 0, .int .i64 100000] w fun x w' => x = .returned (.tuple #[.int .i64 0, .int .i64 2]) ∧ Below w.heap.size w w' := by
  refine count_any 96 A 1 [46413] 0 100000 0 2 w (ex_in A 1 h) ?_ (ex_chk_bad [0, 100000] (by decide))
  unfold coV; rw [ex_chk_bad [0, 100000] (by decide)]; rfl

theorem nm_j1 (w : World) : Calls Tryd.prog 15 #[.agg #[.int .u8 7, .slice none 0 0], .agg #[.int .u8 120, .slice none 0 0]] w fun x w' => ∃ A c, x = .returned (.tuple #[.agg #[.int .u8 0, .slice A 0 c], .int .i64 6]) ∧ CalIn w' 0 A c [] ∧ Below w.heap.size w w' := by
  have h := jon_any (we1 := 7) (A1 := none) (c1 := 0) (hs1 := []) (we2 := 120) (A2 := none) (c2 := 0) (hs2 := []) w (nm_in0 (by decide)) (nm_in0 (by decide))
  have e : joE 7 [] 120 [] = 6 := by rw [joE_good (by decide) (by decide), if_pos (by decide)]
  unfold joW joL at h
  rw [e] at h
  exact h
theorem nm_j2 (A : Option Addr) (B : Nat) (w : World) (h : HsA w A [46413]) (h2 : HsA w (some ⟨B, 0, none⟩) [5, 46413]) : Calls Tryd.prog 15 #[.agg #[.int .u8 96, .slice A 1 1], .agg #[.int .u8 16, .slice (some ⟨B, 0, none⟩) 2 2]] w fun x w' => ∃ A c, x = .returned (.tuple #[.agg #[.int .u8 112, .slice A 2 c], .int .i64 0]) ∧ CalIn w' 112 A c [5, 46413] ∧ Below w.heap.size w w' := by
  have h := jon_any (we1 := 96) (A1 := A) (c1 := 1) (hs1 := [46413]) (we2 := 16) (A2 := some ⟨B, 0, none⟩) (c2 := 2) (hs2 := [5, 46413]) w (ex_in A 1 h) (nm_in2 h2 (by decide))
  have e : joE 96 [46413] 16 [5, 46413] = 0 := by rw [joE_good (by decide) (by decide), if_neg (by decide), uni_ex, if_neg (by decide)]
  unfold joW joL at h
  rw [e, if_pos rfl, if_pos rfl, uni_ex] at h
  exact h
theorem nm_s (A : Option Addr) (c B : Nat) (w : World) (h : CalIn w 112 A c [5, 46413]) (h2 : HsA w (some ⟨B, 0, none⟩) [5, 46413]) : Calls Tryd.prog 18 #[.agg #[.int .u8 112, .slice A 2 c], .agg #[.int .u8 112, .slice (some ⟨B, 0, none⟩) 2 2]] w fun x w' => x = .returned (.bool true) ∧ Below w.heap.size w w' :=
  same_any 112 A c [5, 46413] 112 (some ⟨B, 0, none⟩) 2 [5, 46413] true w h (nm_in2 h2 (by decide)) (by decide)
theorem nm_c1 (w : World) : Calls Tryd.prog 16 #[.agg #[.int .u8 127, .slice none 0 0]] w fun x w' => x = .returned (.int .i64 8) ∧ Below w.heap.size w w' := check_any 127 none 0 [] 8 w (nm_in0 (by decide)) (by decide)
theorem nm_c2 (B : Nat) (w : World) (h : HsA w (some ⟨B, 0, none⟩) [5, 5]) : Calls Tryd.prog 16 #[.agg #[.int .u8 0, .slice (some ⟨B, 0, none⟩) 2 2]] w fun x w' => x = .returned (.int .i64 8) ∧ Below w.heap.size w w' := check_any 0 _ 2 [5, 5] 8 w (nm_in2 h (by decide)) (by decide)
theorem nm_c3 (B : Nat) (w : World) (h : HsA w (some ⟨B, 0, none⟩) [-1]) : Calls Tryd.prog 16 #[.agg #[.int .u8 0, .slice (some ⟨B, 0, none⟩) 1 1]] w fun x w' => x = .returned (.int .i64 8) ∧ Below w.heap.size w w' := check_any 0 _ 1 [-1] 8 w (nm_in h (by decide)) (by decide)
theorem nm_c4' (w : World) : Calls Tryd.prog 16 #[.agg #[.int .u8 126, .slice none 0 0]] w fun x w' => x = .returned (.int .i64 0) ∧ Below w.heap.size w w' := check_any 126 none 0 [] 0 w (nm_in0 (by decide)) (by decide)
theorem c1_two {w : World} {B : Nat} {we : Int} {A : Option Addr} {c : Nat} {x y : Int} (h : CalAt w B we A c [x, y]) : w.cell? ⟨B, 1, none⟩ = some (.slice A 2 c) := h.c1
theorem calNew2 {w : World} {A : Option Addr} {x y : Int} (we : Int) (c : Nat) (h : HsA w A [x, y]) : CalAt (w.alloc (.cells #[.int .u8 we, .slice A 2 c] 24)) w.heap.size we A c [x, y] := CalAt.new h

set_option maxRecDepth 100000 in
set_option maxHeartbeats 6400000 in
theorem names_law (w : World) (hV : VarS w) :
    Calls Tryd.prog 3 #[] w fun e w' => e = .returned (.bool true) ∧ Below w.heap.size w w' := by
  have HE := Lib.hid (example_any w)
  have HV := Lib.hid hV
  have HL : Hid (∀ w', Below w.heap.size w w' → Calls _ _ _ _ _) := fun w' hb => calive_any w' (hV.below hb)
  have HB1 := Lib.hid nm_b1
  have HB2 := Lib.hid nm_b2
  have HB3 := Lib.hid nm_b3
  have HB4 := Lib.hid nm_b4
  have HR5 := Lib.hid nm_r5
  have HR6 := Lib.hid nm_r6
  have HR7 := Lib.hid nm_r7
  have HR8 := Lib.hid nm_r8
  have HR9 := Lib.hid nm_r9
  have HR10 := Lib.hid nm_r10
  have HA1 := Lib.hid nm_a1
  have HA2 := Lib.hid nm_a2
  have HA3 := Lib.hid nm_a3
  have HA4 := Lib.hid nm_a4
  have HK1 := Lib.hid nm_k1
  have HK2 := Lib.hid nm_k2
  have HJ1 := Lib.hid nm_j1
  have HJ2 := Lib.hid nm_j2
  have HC1 := Lib.hid nm_c1
  have HC2 := Lib.hid nm_c2
  have HC3 := Lib.hid nm_c3
  have HC4 := Lib.hid nm_c4'
  have HS := Lib.hid nm_s
  clear hV
  go_enter Tryd.func3, Tryd.ntmps3
  go_wp2_with (first
    | (go_at_call 10; ((with_reducible refine HE.out.mono ?_); rintro x u1 ⟨⟨B, rfl, hh⟩, hb⟩; have B1 := Lib.hid (bt hb (bel1 u1 (.cells #[.int .u8 96, .slice (some ⟨B, 0, none⟩) 1 1] 24))); have C1 := Lib.hid (calNew1 96 1 hh); have k0 := C1.out.c0; have k1 := c1_one C1.out; clear hb hh))
    | (go_at_call 11; ((with_reducible refine (HB1.out _ _ C1.out.hs).mono ?_); rintro x u2 ⟨rfl, hb⟩; have B2 := Lib.hid (bt B1.out hb); have C2 := Lib.hid (C1.out.below hb); have k0 := C2.out.c0; have k1 := c1_one C2.out; clear hb))
    | (go_at_call 11; ((with_reducible refine (HB2.out _ _ C2.out.hs).mono ?_); rintro x u3 ⟨rfl, hb⟩; have B3 := Lib.hid (bt B2.out hb); have C3 := Lib.hid (C2.out.below hb); have k0 := C3.out.c0; have k1 := c1_one C3.out; clear hb))
    | (go_at_call 11; ((with_reducible refine (HB3.out _ _ C3.out.hs).mono ?_); rintro x u4 ⟨rfl, hb⟩; have B4 := Lib.hid (bt B3.out hb); have C4 := Lib.hid (C3.out.below hb); have k0 := C4.out.c0; have k1 := c1_one C4.out; clear hb))
    | (go_at_call 11; ((with_reducible refine (HB4.out _ _ C4.out.hs).mono ?_); rintro x u5 ⟨rfl, hb⟩; have B5 := Lib.hid (bt B4.out hb); have C5 := Lib.hid (C4.out.below hb); have k0 := C5.out.c0; have k1 := c1_one C5.out; clear hb))
    | (go_at_call 12; ((with_reducible refine (HR5.out _ _ C5.out.hs (HV.out.below B5.out).d).mono ?_); rintro x u6 ⟨rfl, hb⟩; have B6 := Lib.hid (bt B5.out hb); have C6 := Lib.hid (C5.out.below hb); have k0 := C6.out.c0; have k1 := c1_one C6.out; clear hb))
    | (go_at_call 12; ((with_reducible refine (HR6.out _ _ (nm_new1 u6 0) (HV.out.below (bt B6.out (bel1 u6 _))).d).mono ?_); rintro x u7 ⟨rfl, hb⟩; have ha := bel1 u6 (.cells #[.int .i64 0] 3); have B7 := Lib.hid (bt (bt B6.out ha) hb); have C7 := Lib.hid ((C6.out.below ha).below hb); have k0 := C7.out.c0; have k1 := c1_one C7.out; clear hb ha))
    | (go_at_call 12; ((with_reducible refine (HR7.out _ _ (nm_new1 u7 0) (HV.out.below (bt B7.out (bel1 u7 _))).d).mono ?_); rintro x u8 ⟨rfl, hb⟩; have ha := bel1 u7 (.cells #[.int .i64 0] 3); have B8 := Lib.hid (bt (bt B7.out ha) hb); have C8 := Lib.hid ((C7.out.below ha).below hb); have k0 := C8.out.c0; have k1 := c1_one C8.out; clear hb ha))
    | (go_at_call 12; ((with_reducible refine (HR8.out _ _ (nm_new1 u8 99999) (HV.out.below (bt B8.out (bel1 u8 _))).d).mono ?_); rintro x u9 ⟨rfl, hb⟩; have ha := bel1 u8 (.cells #[.int .i64 99999] 3); have B9 := Lib.hid (bt (bt B8.out ha) hb); have C9 := Lib.hid ((C8.out.below ha).below hb); have k0 := C9.out.c0; have k1 := c1_one C9.out; clear hb ha))
    | (go_at_call 12; ((with_reducible refine (HR9.out _ _ (nm_new1 u9 99999) (HV.out.below (bt B9.out (bel1 u9 _))).d).mono ?_); rintro x u10 ⟨rfl, hb⟩; have ha := bel1 u9 (.cells #[.int .i64 99999] 3); have B10 := Lib.hid (bt (bt B9.out ha) hb); have C10 := Lib.hid ((C9.out.below ha).below hb); have k0 := C10.out.c0; have k1 := c1_one C10.out; clear hb ha))
    | (go_at_call 12; ((with_reducible refine (HR10.out _ _ C10.out.hs (HV.out.below B10.out).d).mono ?_); rintro x u11 ⟨rfl, hb⟩; have B11 := Lib.hid (bt B10.out hb); have C11 := Lib.hid (C10.out.below hb); have k0 := C11.out.c0; have k1 := c1_one C11.out; clear hb))
    | (go_at_call 13; ((with_reducible refine (HA1.out _ _ C11.out.hs (HV.out.below B11.out).d).mono ?_); rintro x u12 ⟨rfl, hb⟩; have B12 := Lib.hid (bt B11.out hb); have C12 := Lib.hid (C11.out.below hb); have k0 := C12.out.c0; have k1 := c1_one C12.out; clear hb))
    | (go_at_call 13; ((with_reducible refine (HA2.out _ _ C12.out.hs (HV.out.below B12.out).d).mono ?_); rintro x u13 ⟨rfl, hb⟩; have B13 := Lib.hid (bt B12.out hb); have C13 := Lib.hid (C12.out.below hb); have k0 := C13.out.c0; have k1 := c1_one C13.out; clear hb))
    | (go_at_call 13; ((with_reducible refine (HA3.out _ _ C13.out.hs (HV.out.below B13.out).d).mono ?_); rintro x u14 ⟨rfl, hb⟩; have B14 := Lib.hid (bt B13.out hb); have C14 := Lib.hid (C13.out.below hb); have k0 := C14.out.c0; have k1 := c1_one C14.out; clear hb))
    | (go_at_call 13; ((with_reducible refine (HA4.out _ _ C14.out.hs (HV.out.below B14.out).d).mono ?_); rintro x u15 ⟨rfl, hb⟩; have B15 := Lib.hid (bt B14.out hb); have C15 := Lib.hid (C14.out.below hb); have k0 := C15.out.c0; have k1 := c1_one C15.out; clear hb))
    | (go_at_call 14; ((with_reducible refine (HK1.out _ _ C15.out.hs).mono ?_); rintro x u16 ⟨rfl, hb⟩; have B16 := Lib.hid (bt B15.out hb); have C16 := Lib.hid (C15.out.below hb); have k0 := C16.out.c0; have k1 := c1_one C16.out; clear hb))
    | (go_at_call 14; ((with_reducible refine (HK2.out _ _ C16.out.hs).mono ?_); rintro x u17 ⟨rfl, hb⟩; have B17 := Lib.hid (bt B16.out hb); have C17 := Lib.hid (C16.out.below hb); have k0 := C17.out.c0; have k1 := c1_one C17.out; clear hb))
    | (go_at_call 15; ((with_reducible refine (HJ1.out _).mono ?_); rintro x u18 ⟨Aj, cj, rfl, hin, hb⟩; have ha := bel1 u18 (.cells #[.int .u8 0, .slice Aj 0 cj] 24); have B18 := Lib.hid (bt (bt B17.out hb) ha); have C18 := Lib.hid ((C17.out.below hb).below ha); have k0 := C18.out.c0; have k1 := c1_one C18.out; clear hb ha hin))
    | (go_at_call 15; ((with_reducible refine (HJ2.out _ _ _ (C18.out.below (bel1 _ _)).hs (nm_new3 u18 _ 5 46413)).mono ?_); rintro x u19 ⟨Ab, cb, rfl, hin, hb⟩; have h0 := bel1 (u18.alloc (.cells #[.int .u8 0, .slice Aj 0 cj] 24)) (.cells #[.int .i64 5, .int .i64 46413] 3); have ha := bel1 u19 (.cells #[.int .u8 112, .slice Ab 2 cb] 24); have B19 := Lib.hid (bt (bt (bt B18.out h0) hb) ha); have C19 := Lib.hid (((C18.out.below h0).below hb).below ha); have k0 := C19.out.c0; have k1 := c1_one C19.out; have D19 := Lib.hid (calNew2 112 cb hin.rd); have I19 := Lib.hid (hin.below ha); have m0 := D19.out.c0; have m1 := c1_two D19.out; clear hb ha h0 hin))
    | (go_at_call 16; ((with_reducible refine (HC1.out _).mono ?_); rintro x u20 ⟨rfl, hb⟩; have B20 := Lib.hid (bt B19.out hb); have D20 := Lib.hid (D19.out.below hb); have I20 := Lib.hid (I19.out.below hb); have m0 := D20.out.c0; have m1 := c1_two D20.out; clear hb))
    | (go_at_call 16; ((with_reducible refine (HC2.out _ _ (nm_new2 u20 5 5)).mono ?_); rintro x u21 ⟨rfl, hb⟩; have ha := bel1 u20 (.cells #[.int .i64 5, .int .i64 5] 3); have B21 := Lib.hid (bt (bt B20.out ha) hb); have D21 := Lib.hid ((D20.out.below ha).below hb); have I21 := Lib.hid ((I20.out.below ha).below hb); have m0 := D21.out.c0; have m1 := c1_two D21.out; clear hb ha))
    | (go_at_call 16; ((with_reducible refine (HC3.out _ _ (nm_new1 u21 (-1))).mono ?_); rintro x u22 ⟨rfl, hb⟩; have ha := bel1 u21 (.cells #[.int .i64 (-1)] 3); have B22 := Lib.hid (bt (bt B21.out ha) hb); have D22 := Lib.hid ((D21.out.below ha).below hb); have I22 := Lib.hid ((I21.out.below ha).below hb); have m0 := D22.out.c0; have m1 := c1_two D22.out; clear hb ha))
    | (go_at_call 16; ((with_reducible refine (HC4.out _).mono ?_); rintro x u23 ⟨rfl, hb⟩; have B23 := Lib.hid (bt B22.out hb); have D23 := Lib.hid (D22.out.below hb); have I23 := Lib.hid (I22.out.below hb); have m0 := D23.out.c0; have m1 := c1_two D23.out; clear hb))
    | (go_at_call 17; ((with_reducible refine (HL.out _ B23.out).mono ?_); rintro x u24 ⟨rfl, hb⟩; have B24 := Lib.hid (bt B23.out hb); have D24 := Lib.hid (D23.out.below hb); have I24 := Lib.hid (I23.out.below hb); have m0 := D24.out.c0; have m1 := c1_two D24.out; clear hb))
    | (go_at_call 18; ((with_reducible refine (HS.out _ _ _ _ (I24.out.below (bel1 _ _)) (nm_new2 u24 5 46413)).mono ?_); rintro x u25 ⟨rfl, hb⟩; have ha := bel1 u24 (.cells #[.int .i64 5, .int .i64 46413] 3); have B25 := Lib.hid (bt (bt B24.out ha) hb); clear hb ha)))
  go_ret
  exact ⟨rfl, B25.out⟩
end Go.Proofs.YtgnmcjfocnnffaaDoor

/- Layer 6: the walks of the laws ScheduleFinds and ScheduleTells, over what the program answers. -/
import Derived.Test.YtfheeipggedaiaaDoorScG
import Derived.Test.YtfheeipggedaiaaDoorCalK
namespace Go.Proofs.YtfheeipggedaiaaDoor
open Go Go.RowKit

section
variable (st en mo : Int) (bk la : Bool) (sb ro we : Int) (A : Option Addr) (c : Nat) (hs : List Int)
set_option maxRecDepth 100000 in
set_option maxHeartbeats 1600000 in
theorem sfinds_great (day : Int) (w : World) (h : CalIn w we A c hs) (hg : grtB hs = true) :
    Calls Tryd.prog 5 #[.agg #[.int .i64 st, .int .i64 en, .int .i64 mo, .bool bk, .bool la, .int .u8 sb, .int .u8 ro, .int .u8 we, .slice A hs.length c], .int .i64 day] w fun e w' => e = .returned (.bool true) ∧ Below w.heap.size w w' := by
  have HG := Lib.hid (fun W (hb : Below w.heap.size w W) => great_anyC we A c hs true W (h.below hb) hg)
  clear h hg
  go_enter Tryd.func5, Tryd.ntmps5
  go_wp2_with (go_at_call 18; ((with_reducible refine (HG.out _ (belE_c _ _)).mono ?_); rintro e w1 ⟨rfl, b⟩; have B1 := Lib.hid (btS (belE_c _ _) b); clear b))
  go_ret
  exact ⟨rfl, B1.out⟩
set_option maxRecDepth 100000 in
set_option maxHeartbeats 1600000 in
theorem sfinds_walk (day v e : Int) (w : World) (h : CalIn w we A c hs) (hg : grtB hs = false)
    (H1 : ∀ W, Below w.heap.size w W → Calls Tryd.prog 12 #[.agg #[.int .i64 st, .int .i64 en, .int .i64 mo, .bool bk, .bool la, .int .u8 sb, .int .u8 ro, .int .u8 we, .slice A hs.length c], .int .i64 day] W (FinR v e W))
    (H2 : ∀ W, Below w.heap.size w W → Calls Tryd.prog 23 #[.agg #[.int .i64 st, .int .i64 en, .int .i64 mo, .bool bk, .bool la, .int .u8 sb, .int .u8 ro, .int .u8 we, .slice A hs.length c], .int .i64 day] W (FinR v e W)) :
    Calls Tryd.prog 5 #[.agg #[.int .i64 st, .int .i64 en, .int .i64 mo, .bool bk, .bool la, .int .u8 sb, .int .u8 ro, .int .u8 we, .slice A hs.length c], .int .i64 day] w fun e w' => e = .returned (.bool true) ∧ Below w.heap.size w w' := by
  have HG := Lib.hid (fun W (hb : Below w.heap.size w W) => great_anyC we A c hs false W (h.below hb) hg)
  have J1 := Lib.hid H1
  have J2 := Lib.hid H2
  clear h hg H1 H2
  go_enter Tryd.func5, Tryd.ntmps5
  go_wp2_with (first
    | (go_at_call 18; ((with_reducible refine (HG.out _ (belE_c _ _)).mono ?_); rintro x w1 ⟨rfl, b⟩; obtain ⟨q0, q1, q2, q3, q4, q5, q6, q7, q8⟩ := row9S b; have C1 := Lib.hid b; have B1 := Lib.hid (btS (belE_c _ _) b); clear b))
    | (go_at_call 12; ((with_reducible refine (J1.out _ B1.out).mono ?_); rintro x w2 ⟨rfl, b⟩; obtain ⟨p0, p1, p2, p3, p4, p5, p6, p7, p8⟩ := row9S (btS C1.out b); have B2 := Lib.hid (btS B1.out b); clear b))
    | (go_at_call 23; ((with_reducible refine (J2.out _ B2.out).mono ?_); rintro x w3 ⟨rfl, b⟩; have B3 := Lib.hid (btS B2.out b); clear b)))
  go_ret
  exact ⟨ret_boolD (by simp), B3.out⟩
set_option maxRecDepth 100000 in
set_option maxHeartbeats 1600000 in
theorem stells_great (w : World) (h : CalIn w we A c hs) (hg : grtB hs = true) :
    Calls Tryd.prog 4 #[.agg #[.int .i64 st, .int .i64 en, .int .i64 mo, .bool bk, .bool la, .int .u8 sb, .int .u8 ro, .int .u8 we, .slice A hs.length c]] w fun e w' => e = .returned (.bool true) ∧ Below w.heap.size w w' := by
  have HG := Lib.hid (fun W (hb : Below w.heap.size w W) => great_anyC we A c hs true W (h.below hb) hg)
  clear h hg
  go_enter Tryd.func4, Tryd.ntmps4
  go_wp2_with (go_at_call 18; ((with_reducible refine (HG.out _ (belE_c _ _)).mono ?_); rintro e w1 ⟨rfl, b⟩; have B1 := Lib.hid (btS (belE_c _ _) b); clear b))
  go_ret
  exact ⟨rfl, B1.out⟩
set_option maxRecDepth 100000 in
set_option maxHeartbeats 3200000 in
theorem stells_walk (L : List Int) (E : Int) (R : List Per) (F : Int) (ck : Int) (z : Bool) (hz : (ck == 0) = z) (hL : L.length ≤ 1000000) (hR : R.length ≤ 1000000) (w : World) (h : CalIn w we A c hs) (hg : grtB hs = false)
    (H1 : ∀ W, Below w.heap.size w W → Calls Tryd.prog 11 #[.agg #[.int .i64 st, .int .i64 en, .int .i64 mo, .bool bk, .bool la, .int .u8 sb, .int .u8 ro, .int .u8 we, .slice A hs.length c]] W (DtsR L E W))
    (H2 : ∀ W, Below w.heap.size w W → Calls Tryd.prog 19 #[.agg #[.int .i64 st, .int .i64 en, .int .i64 mo, .bool bk, .bool la, .int .u8 sb, .int .u8 ro, .int .u8 we, .slice A hs.length c]] W (DtsR L E W))
    (H3 : ∀ W, Below w.heap.size w W → Calls Tryd.prog 14 #[.agg #[.int .i64 st, .int .i64 en, .int .i64 mo, .bool bk, .bool la, .int .u8 sb, .int .u8 ro, .int .u8 we, .slice A hs.length c]] W (PrsP R F W))
    (H4 : ∀ W, Below w.heap.size w W → Calls Tryd.prog 20 #[.agg #[.int .i64 st, .int .i64 en, .int .i64 mo, .bool bk, .bool la, .int .u8 sb, .int .u8 ro, .int .u8 we, .slice A hs.length c]] W (PrsP R F W))
    (H5 : ∀ W, Below w.heap.size w W → Calls Tryd.prog 15 #[.agg #[.int .i64 st, .int .i64 en, .int .i64 mo, .bool bk, .bool la, .int .u8 sb, .int .u8 ro, .int .u8 we, .slice A hs.length c]] W fun e w' => e = .returned (.int .i64 ck) ∧ Below W.heap.size W w')
    (H6 : ∀ W, Below w.heap.size w W → Calls Tryd.prog 22 #[.agg #[.int .i64 st, .int .i64 en, .int .i64 mo, .bool bk, .bool la, .int .u8 sb, .int .u8 ro, .int .u8 we, .slice A hs.length c]] W fun e w' => e = .returned (.bool z) ∧ Below W.heap.size W w') :
    Calls Tryd.prog 4 #[.agg #[.int .i64 st, .int .i64 en, .int .i64 mo, .bool bk, .bool la, .int .u8 sb, .int .u8 ro, .int .u8 we, .slice A hs.length c]] w fun e w' => e = .returned (.bool true) ∧ Below w.heap.size w w' := by
  have HG := Lib.hid (fun W (hb : Below w.heap.size w W) => great_anyC we A c hs false W (h.below hb) hg)
  have J1 := Lib.hid H1
  have J2 := Lib.hid H2
  have J3 := Lib.hid H3
  have J4 := Lib.hid H4
  have J5 := Lib.hid H5
  have J6 := Lib.hid H6
  have HL := Lib.hid hL
  have HR := Lib.hid hR
  clear h hg H1 H2 H3 H4 H5 H6 hL hR
  go_enter Tryd.func4, Tryd.ntmps4
  go_wp2_with (first
    | (go_at_call 18; ((with_reducible refine (HG.out _ (belE_c _ _)).mono ?_); rintro x w1 ⟨rfl, b⟩; obtain ⟨q0, q1, q2, q3, q4, q5, q6, q7, q8⟩ := row9S b; have C1 := Lib.hid b; have B1 := Lib.hid (btS (belE_c _ _) b); clear b))
    | (go_at_call 11; ((with_reducible refine (J1.out _ B1.out).mono ?_); rintro x w2 ⟨A2, c2, rfl, h2, -, -, -, b⟩; obtain ⟨q0, q1, q2, q3, q4, q5, q6, q7, q8⟩ := row9S (btS C1.out b); have C2 := Lib.hid (btS C1.out b); have B2 := Lib.hid (btS B1.out b); have K2 := Lib.hid h2; clear b h2))
    | (go_at_call 19; ((with_reducible refine (J2.out _ B2.out).mono ?_); rintro x w3 ⟨A3, c3, rfl, h3, -, -, -, b⟩; obtain ⟨q0, q1, q2, q3, q4, q5, q6, q7, q8⟩ := row9S (btS C2.out b); have C3 := Lib.hid (btS C2.out b); have B3 := Lib.hid (btS B2.out b); have K3 := Lib.hid h3; have K2' := Lib.hid (K2.out.below b); clear b h3))
    | (go_at_call 14; ((with_reducible refine (J3.out _ B3.out).mono ?_); rintro x w4 ⟨A4, c4, rfl, h4, -, -, -, b⟩; obtain ⟨q0, q1, q2, q3, q4, q5, q6, q7, q8⟩ := row9S (btS C3.out b); have C4 := Lib.hid (btS C3.out b); have B4 := Lib.hid (btS B3.out b); have K4 := Lib.hid h4; have M2 := Lib.hid (K2'.out.below b); have M3 := Lib.hid (K3.out.below b); clear b h4))
    | (go_at_call 20; ((with_reducible refine (J4.out _ B4.out).mono ?_); rintro x w5 ⟨A5, c5, rfl, h5, -, -, -, b⟩; obtain ⟨q0, q1, q2, q3, q4, q5, q6, q7, q8⟩ := row9S (btS C4.out b); have C5 := Lib.hid (btS C4.out b); have B5 := Lib.hid (btS B4.out b); have K5 := Lib.hid h5; have N2 := Lib.hid (M2.out.below b); have N3 := Lib.hid (M3.out.below b); have N4 := Lib.hid (K4.out.below b); clear b h5)))
  have E5 := Lib.hid (Below.drew B5.out)
  have N2d := Lib.hid (N2.out.below (Below.drew (Below.refl _ _)))
  have N3d := Lib.hid (N3.out.below (Below.drew (Below.refl _ _)))
  have N4d := Lib.hid (N4.out.below (Below.drew (Below.refl _ _)))
  have K5d := Lib.hid (K5.out.below (Below.drew (Below.refl _ _)))
  go_region_held3 (fun w' => w'.cell? ⟨w.heap.size, 0, none⟩ = some (.int .i64 st) ∧ w'.cell? ⟨w.heap.size, 1, none⟩ = some (.int .i64 en) ∧ w'.cell? ⟨w.heap.size, 2, none⟩ = some (.int .i64 mo) ∧ w'.cell? ⟨w.heap.size, 3, none⟩ = some (.bool bk) ∧ w'.cell? ⟨w.heap.size, 4, none⟩ = some (.bool la) ∧ w'.cell? ⟨w.heap.size, 5, none⟩ = some (.int .u8 sb) ∧ w'.cell? ⟨w.heap.size, 6, none⟩ = some (.int .u8 ro) ∧ w'.cell? ⟨w.heap.size, 7, none⟩ = some (.int .u8 we) ∧ w'.cell? ⟨w.heap.size, 8, none⟩ = some (.slice A hs.length c))
    (((try go_split_ands); (and_intros) <;> first | assumption | (refine (b9.cell ?_).trans ?_; exact (World.block_lt_of_cell? _ _ (by assumption)); assumption) | (refine (b8.cell ?_).trans ?_; exact (World.block_lt_of_cell? _ _ (by assumption)); assumption) | (refine (b7.cell ?_).trans ?_; exact (World.block_lt_of_cell? _ _ (by assumption)); assumption) | (refine (b6.cell ?_).trans ?_; exact (World.block_lt_of_cell? _ _ (by assumption)); assumption) | (go_keep; done)))
    (first
      | (go_split_ands; go_at_call 21; refine (sameInts_any A2 A3 c2 c3 L L true (by simp) HL.out _ N2d.out N3d.out).mono ?_; rintro x w6 ⟨rfl, b6⟩; have B6 := Lib.hid (btS E5.out b6); have O4 := Lib.hid (N4d.out.below b6); have O5 := Lib.hid (K5d.out.below b6))
      | (go_split_ands; go_at_call 16; refine (samePs_any A4 A5 c4 c5 R R true (by simp) HR.out _ O4.out O5.out).mono ?_; rintro x w7 ⟨rfl, b7⟩; have B7 := Lib.hid (btS B6.out b7))
      | (go_split_ands; go_at_call 15; refine (J5.out _ B7.out).mono ?_; rintro x w8 ⟨rfl, b8⟩; have B8 := Lib.hid (btS B7.out b8))
      | (go_split_ands; go_at_call 22; refine (J6.out _ B8.out).mono ?_; rintro x w9 ⟨rfl, b9⟩; have B9 := Lib.hid (btS B8.out b9)))
  go_wp2
  go_ret
  exact ⟨ret_boolD (by simp), B9.out⟩
end
end Go.Proofs.YtfheeipggedaiaaDoor

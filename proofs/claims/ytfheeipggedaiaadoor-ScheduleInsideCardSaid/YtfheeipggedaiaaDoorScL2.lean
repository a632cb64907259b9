/- Layer 6: the walks of the law ScheduleInside, over what the program answers. -/
import Derived.Test.YtfheeipggedaiaaDoorScG
import Derived.Test.YtfheeipggedaiaaDoorScJ
import Derived.Test.YtfheeipggedaiaaDoorCalK
namespace Go.Proofs.YtfheeipggedaiaaDoor
open Go Go.RowKit

section
variable (st en mo : Int) (bk la : Bool) (sb ro we : Int) (A : Option Addr) (c : Nat) (hs : List Int)
set_option maxRecDepth 100000 in
set_option maxHeartbeats 3200000 in
theorem inside_great (day : Int) (w : World) (h : CalIn w we A c hs) (hg : grtB hs = true)
    (H0 : ∀ W, Below w.heap.size w W → Calls Tryd.prog 17 #[] W (BolS true W)) :
    Calls Tryd.prog 9 #[.agg #[.int .i64 st, .int .i64 en, .int .i64 mo, .bool bk, .bool la, .int .u8 sb, .int .u8 ro, .int .u8 we, .slice A hs.length c], .int .i64 day] w fun e w' => e = .returned (.bool true) ∧ Below w.heap.size w w' := by
  have HG := Lib.hid (fun W (hb : Below w.heap.size w W) => great_anyC we A c hs true W (h.below hb) hg)
  have J0 := Lib.hid H0
  clear h hg H0
  go_enter Tryd.func9, Tryd.ntmps9
  go_wp2_with (first
    | (go_at_call 17; ((with_reducible refine (J0.out _ (belE_c _ _)).mono ?_); rintro x w1 ⟨rfl, b⟩; obtain ⟨q0, q1, q2, q3, q4, q5, q6, q7, q8⟩ := row9S b; have C1 := Lib.hid b; have B1 := Lib.hid (btS (belE_c _ _) b); clear b))
    | (go_at_call 18; ((with_reducible refine (HG.out _ B1.out).mono ?_); rintro x w2 ⟨rfl, b⟩; obtain ⟨q0, q1, q2, q3, q4, q5, q6, q7, q8⟩ := row9S (btS C1.out b); have C2 := Lib.hid (btS C1.out b); have B2 := Lib.hid (btS B1.out b); clear b)))
  go_ret
  exact ⟨rfl, B2.out⟩
set_option maxRecDepth 100000 in
set_option maxHeartbeats 3200000 in
theorem inside_err (day E : Int) (hE : (E != 0) = true) (w : World) (h : CalIn w we A c hs) (hg : grtB hs = false)
    (H0 : ∀ W, Below w.heap.size w W → Calls Tryd.prog 17 #[] W (BolS true W))
    (H1 : ∀ W, Below w.heap.size w W → Calls Tryd.prog 11 #[.agg #[.int .i64 st, .int .i64 en, .int .i64 mo, .bool bk, .bool la, .int .u8 sb, .int .u8 ro, .int .u8 we, .slice A hs.length c]] W (DtsR [] E W))
    (H2 : ∀ W, Below w.heap.size w W → Calls Tryd.prog 12 #[.agg #[.int .i64 st, .int .i64 en, .int .i64 mo, .bool bk, .bool la, .int .u8 sb, .int .u8 ro, .int .u8 we, .slice A hs.length c], .int .i64 day] W (FinR 0 E W)) :
    Calls Tryd.prog 9 #[.agg #[.int .i64 st, .int .i64 en, .int .i64 mo, .bool bk, .bool la, .int .u8 sb, .int .u8 ro, .int .u8 we, .slice A hs.length c], .int .i64 day] w fun e w' => e = .returned (.bool true) ∧ Below w.heap.size w w' := by
  have HG := Lib.hid (fun W (hb : Below w.heap.size w W) => great_anyC we A c hs false W (h.below hb) hg)
  have J0 := Lib.hid H0
  have J1 := Lib.hid H1
  have J2 := Lib.hid H2
  clear h hg H0 H1 H2
  go_enter Tryd.func9, Tryd.ntmps9
  go_wp2_with (first
    | (go_at_call 17; ((with_reducible refine (J0.out _ (belE_c _ _)).mono ?_); rintro x w1 ⟨rfl, b⟩; obtain ⟨q0, q1, q2, q3, q4, q5, q6, q7, q8⟩ := row9S b; have C1 := Lib.hid b; have B1 := Lib.hid (btS (belE_c _ _) b); clear b))
    | (go_at_call 18; ((with_reducible refine (HG.out _ B1.out).mono ?_); rintro x w2 ⟨rfl, b⟩; obtain ⟨q0, q1, q2, q3, q4, q5, q6, q7, q8⟩ := row9S (btS C1.out b); have C2 := Lib.hid (btS C1.out b); have B2 := Lib.hid (btS B1.out b); clear b))
    | (go_at_call 11; ((with_reducible refine (J1.out _ B2.out).mono ?_); rintro x w3 ⟨A3, c3, rfl, h3, -, -, -, b⟩; obtain ⟨q0, q1, q2, q3, q4, q5, q6, q7, q8⟩ := row9S (btS C2.out b); have C3 := Lib.hid (btS C2.out b); have B3 := Lib.hid (btS B2.out b); have K3 := Lib.hid h3; clear b h3))
    | (go_at_call 12; ((with_reducible refine (J2.out _ B3.out).mono ?_); rintro x w4 ⟨rfl, b⟩; obtain ⟨q0, q1, q2, q3, q4, q5, q6, q7, q8⟩ := row9S (btS C3.out b); have B4 := Lib.hid (btS B3.out b); have K4 := Lib.hid (K3.out.below b); clear b)))
  go_ret
  exact ⟨ret_boolD (by simp), B4.out⟩
set_option maxRecDepth 100000 in
set_option maxHeartbeats 3200000 in
theorem inside_no (day e : Int) (he : (e != 0) = true) (LL : List Int) (hn : day < st ∨ st ≤ day ∧ en ≤ day) (w : World) (h : CalIn w we A c hs) (hg : grtB hs = false)
    (H0 : ∀ W, Below w.heap.size w W → Calls Tryd.prog 17 #[] W (BolS true W))
    (H1 : ∀ W, Below w.heap.size w W → Calls Tryd.prog 11 #[.agg #[.int .i64 st, .int .i64 en, .int .i64 mo, .bool bk, .bool la, .int .u8 sb, .int .u8 ro, .int .u8 we, .slice A hs.length c]] W (DtsR LL 0 W))
    (H2 : ∀ W, Below w.heap.size w W → Calls Tryd.prog 12 #[.agg #[.int .i64 st, .int .i64 en, .int .i64 mo, .bool bk, .bool la, .int .u8 sb, .int .u8 ro, .int .u8 we, .slice A hs.length c], .int .i64 day] W (FinR 0 e W)) :
    Calls Tryd.prog 9 #[.agg #[.int .i64 st, .int .i64 en, .int .i64 mo, .bool bk, .bool la, .int .u8 sb, .int .u8 ro, .int .u8 we, .slice A hs.length c], .int .i64 day] w fun e w' => e = .returned (.bool true) ∧ Below w.heap.size w w' := by
  have HG := Lib.hid (fun W (hb : Below w.heap.size w W) => great_anyC we A c hs false W (h.below hb) hg)
  have J0 := Lib.hid H0
  have J1 := Lib.hid H1
  have J2 := Lib.hid H2
  clear h hg H0 H1 H2
  rcases hn with hn | ⟨hn, hn2⟩
  all_goals
    go_enter Tryd.func9, Tryd.ntmps9
    go_wp2_with (first
    | (go_at_call 17; ((with_reducible refine (J0.out _ (belE_c _ _)).mono ?_); rintro x w1 ⟨rfl, b⟩; obtain ⟨q0, q1, q2, q3, q4, q5, q6, q7, q8⟩ := row9S b; have C1 := Lib.hid b; have B1 := Lib.hid (btS (belE_c _ _) b); clear b))
    | (go_at_call 18; ((with_reducible refine (HG.out _ B1.out).mono ?_); rintro x w2 ⟨rfl, b⟩; obtain ⟨q0, q1, q2, q3, q4, q5, q6, q7, q8⟩ := row9S (btS C1.out b); have C2 := Lib.hid (btS C1.out b); have B2 := Lib.hid (btS B1.out b); clear b))
    | (go_at_call 11; ((with_reducible refine (J1.out _ B2.out).mono ?_); rintro x w3 ⟨A3, c3, rfl, h3, -, -, -, b⟩; obtain ⟨q0, q1, q2, q3, q4, q5, q6, q7, q8⟩ := row9S (btS C2.out b); have C3 := Lib.hid (btS C2.out b); have B3 := Lib.hid (btS B2.out b); have K3 := Lib.hid h3; clear b h3))
    | (go_at_call 12; ((with_reducible refine (J2.out _ B3.out).mono ?_); rintro x w4 ⟨rfl, b⟩; obtain ⟨q0, q1, q2, q3, q4, q5, q6, q7, q8⟩ := row9S (btS C3.out b); have B4 := Lib.hid (btS B3.out b); have K4 := Lib.hid (K3.out.below b); clear b)))
    go_ret
    exact ⟨ret_boolD (by simp), B4.out⟩
set_option maxRecDepth 100000 in
set_option maxHeartbeats 3200000 in
theorem inside_yes (day : Int) (LL : List Int) (i n : Nat) (hl : LL.length = n) (hi : i + 1 < n) (n1 : n ≤ 1000) (x y : Int) (hx : LL.getD i 0 = x) (hy : LL.getD (i + 1) 0 = y) (h1 : x ≤ day) (h2 : day < y) (h3 : st ≤ day) (h4 : day < en) (w : World) (h : CalIn w we A c hs) (hg : grtB hs = false)
    (H0 : ∀ W, Below w.heap.size w W → Calls Tryd.prog 17 #[] W (BolS true W))
    (H1 : ∀ W, Below w.heap.size w W → Calls Tryd.prog 11 #[.agg #[.int .i64 st, .int .i64 en, .int .i64 mo, .bool bk, .bool la, .int .u8 sb, .int .u8 ro, .int .u8 we, .slice A hs.length c]] W (DtsR LL 0 W))
    (H2 : ∀ W, Below w.heap.size w W → Calls Tryd.prog 12 #[.agg #[.int .i64 st, .int .i64 en, .int .i64 mo, .bool bk, .bool la, .int .u8 sb, .int .u8 ro, .int .u8 we, .slice A hs.length c], .int .i64 day] W (FinR i 0 W)) :
    Calls Tryd.prog 9 #[.agg #[.int .i64 st, .int .i64 en, .int .i64 mo, .bool bk, .bool la, .int .u8 sb, .int .u8 ro, .int .u8 we, .slice A hs.length c], .int .i64 day] w fun e w' => e = .returned (.bool true) ∧ Below w.heap.size w w' := by
  have HG := Lib.hid (fun W (hb : Below w.heap.size w W) => great_anyC we A c hs false W (h.below hb) hg)
  have J0 := Lib.hid H0
  have J1 := Lib.hid H1
  have J2 := Lib.hid H2
  clear h hg H0 H1 H2
  unfold DtsR at J1
  rw [hl] at J1
  have HLL := Lib.hid hl
  have HX := Lib.hid hx
  have HY := Lib.hid hy
  have hi1 : (i : Int) + 1 < (n : Int) := by omega
  have hi0 : (0 : Int) ≤ (i : Int) := by omega
  have hi2 : (i : Int) < (n : Int) := by omega
  clear hl hx hy
  go_enter Tryd.func9, Tryd.ntmps9
  go_wp2_with (first
    | (go_at_call 17; ((with_reducible refine (J0.out _ (belE_c _ _)).mono ?_); rintro x w1 ⟨rfl, b⟩; obtain ⟨q0, q1, q2, q3, q4, q5, q6, q7, q8⟩ := row9S b; have C1 := Lib.hid b; have B1 := Lib.hid (btS (belE_c _ _) b); clear b))
    | (go_at_call 18; ((with_reducible refine (HG.out _ B1.out).mono ?_); rintro x w2 ⟨rfl, b⟩; obtain ⟨q0, q1, q2, q3, q4, q5, q6, q7, q8⟩ := row9S (btS C1.out b); have C2 := Lib.hid (btS C1.out b); have B2 := Lib.hid (btS B1.out b); clear b))
    | (go_at_call 11; ((with_reducible refine (J1.out _ B2.out).mono ?_); rintro x w3 ⟨A3, c3, rfl, h3, -, -, -, b⟩; obtain ⟨q0, q1, q2, q3, q4, q5, q6, q7, q8⟩ := row9S (btS C2.out b); have C3 := Lib.hid (btS C2.out b); have B3 := Lib.hid (btS B2.out b); have K3 := Lib.hid h3; clear b h3))
    | (go_at_call 12; ((with_reducible refine (J2.out _ B3.out).mono ?_); rintro x w4 ⟨rfl, b⟩; obtain ⟨q0, q1, q2, q3, q4, q5, q6, q7, q8⟩ := row9S (btS C3.out b); have B4 := Lib.hid (btS B3.out b); have K4 := Lib.hid (K3.out.below b); obtain ⟨bb, oo, rfl, -, hcell⟩ := K4.out.get (show i < LL.length by rw [HLL.out]; omega); have d0 := hcell i (by rw [HLL.out]; omega); have d1 := hcell (i + 1) (by rw [HLL.out]; omega); rw [HX.out] at d0; rw [HY.out] at d1; clear b hcell)))
  go_ret
  exact ⟨ret_boolD (by simp), B4.out⟩
end
end Go.Proofs.YtfheeipggedaiaaDoor

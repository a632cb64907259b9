/- Layer 6: the walks of the law ScheduleStubs, over what the program answers. -/
import Derived.Test.YtfheeipggedaiaaDoorScG
import Derived.Test.YtfheeipggedaiaaDoorScJ
import Derived.Test.YtfheeipggedaiaaDoorCalK
import Derived.BigQuiet
import Derived.BigRegion
import Derived.Test.YtfheeipggedaiaaDoorScS
namespace Go.Proofs.YtfheeipggedaiaaDoor
open Go Go.RowKit

section
variable (st en mo : Int) (bk la : Bool) (sb ro we : Int) (A : Option Addr) (c : Nat) (hs : List Int)
set_option maxRecDepth 100000 in
set_option maxHeartbeats 3200000 in
theorem stubs_great (w : World) (h : CalIn w we A c hs) (hg : grtB hs = true)
    (H0 : ∀ W, Below w.heap.size w W → Calls Tryd.prog 17 #[] W (BolS true W)) :
    Calls Tryd.prog 8 #[.agg #[.int .i64 st, .int .i64 en, .int .i64 mo, .bool bk, .bool la, .int .u8 sb, .int .u8 ro, .int .u8 we, .slice A hs.length c]] w fun e w' => e = .returned (.bool true) ∧ Below w.heap.size w w' := by
  have HG := Lib.hid (fun W (hb : Below w.heap.size w W) => great_anyC we A c hs true W (h.below hb) hg)
  have J0 := Lib.hid H0
  clear h hg H0
  go_enter Tryd.func8, Tryd.ntmps8
  go_wp2_with (first
    | (go_at_call 17; ((with_reducible refine (J0.out _ (belE_c _ _)).mono ?_); rintro x w1 ⟨rfl, b⟩; obtain ⟨q0, q1, q2, q3, q4, q5, q6, q7, q8⟩ := row9S b; have C1 := Lib.hid b; have B1 := Lib.hid (btS (belE_c _ _) b); clear b))
    | (go_at_call 18; ((with_reducible refine (HG.out _ B1.out).mono ?_); rintro x w2 ⟨rfl, b⟩; obtain ⟨q0, q1, q2, q3, q4, q5, q6, q7, q8⟩ := row9S (btS C1.out b); have C2 := Lib.hid (btS C1.out b); have B2 := Lib.hid (btS B1.out b); clear b)))
  go_ret
  exact ⟨ret_boolD (by simp), B2.out⟩
set_option maxRecDepth 100000 in
set_option maxHeartbeats 3200000 in
theorem stubs_err (E F : Int) (La Lb : List Int) (hE : (E != 0) = true) (_hE2 : (E == 0) = false) (z : Bool) (hF : (F == 0) = z) (hla : (La.length : Int) ≤ 100) (hlb : (Lb.length : Int) ≤ 100) (w : World) (h : CalIn w we A c hs) (hg : grtB hs = false)
    (H0 : ∀ W, Below w.heap.size w W → Calls Tryd.prog 17 #[] W (BolS true W))
    (H1 : ∀ W, Below w.heap.size w W → Calls Tryd.prog 11 #[.agg #[.int .i64 st, .int .i64 en, .int .i64 mo, .bool bk, .bool la, .int .u8 0, .int .u8 ro, .int .u8 we, .slice A hs.length c]] W (DtsR La E W))
    (H2 : ∀ W, Below w.heap.size w W → Calls Tryd.prog 11 #[.agg #[.int .i64 st, .int .i64 en, .int .i64 mo, .bool bk, .bool la, .int .u8 1, .int .u8 ro, .int .u8 we, .slice A hs.length c]] W (DtsR Lb F W)) :
    Calls Tryd.prog 8 #[.agg #[.int .i64 st, .int .i64 en, .int .i64 mo, .bool bk, .bool la, .int .u8 sb, .int .u8 ro, .int .u8 we, .slice A hs.length c]] w fun e w' => e = .returned (.bool true) ∧ Below w.heap.size w w' := by
  have HG := Lib.hid (fun W (hb : Below w.heap.size w W) => great_anyC we A c hs false W (h.below hb) hg)
  have J0 := Lib.hid H0
  have J1 := Lib.hid H1
  have J2 := Lib.hid H2
  clear h hg H0 H1 H2
  cases z
  all_goals
    go_enter Tryd.func8, Tryd.ntmps8
    go_wp2_with (first
      | (go_at_call 17; ((with_reducible refine (J0.out _ (belE_c _ _)).mono ?_); rintro x w1 ⟨rfl, b⟩; obtain ⟨q0, q1, q2, q3, q4, q5, q6, q7, q8⟩ := row9S b; have C1 := Lib.hid b; have B1 := Lib.hid (btS (belE_c _ _) b); clear b))
      | (go_at_call 18; ((with_reducible refine (HG.out _ B1.out).mono ?_); rintro x w2 ⟨rfl, b⟩; obtain ⟨q0, q1, q2, q3, q4, q5, q6, q7, q8⟩ := row9S (btS C1.out b); have C2 := Lib.hid (btS C1.out b); have B2 := Lib.hid (btS B1.out b); clear b)))
    have hlt0 : w.heap.size < w2.heap.size := by have := C2.out.size; simp at this; omega
    have hlt1 : w.heap.size < w2.heap.size + 1 := by omega
    have BX1 : Hid (Below w.heap.size w ((w2.alloc (.cells #[.int .i64 st, .int .i64 en, .int .i64 mo, .bool bk, .bool la, .int .u8 0, .int .u8 ro, .int .u8 we, .slice A hs.length c] 27)).alloc (.cells #[.int .i64 st, .int .i64 en, .int .i64 mo, .bool bk, .bool la, .int .u8 1, .int .u8 ro, .int .u8 we, .slice A hs.length c] 27)).drew) := Below.drew (btS (btS B2.out (belE_c _ _)) (belE_c _ _))
    have BX2 : Hid (Below w.heap.size w ((w2.alloc (.cells #[.int .i64 st, .int .i64 en, .int .i64 mo, .bool bk, .bool la, .int .u8 1, .int .u8 ro, .int .u8 we, .slice A hs.length c] 27)).alloc (.cells #[.int .i64 st, .int .i64 en, .int .i64 mo, .bool bk, .bool la, .int .u8 0, .int .u8 ro, .int .u8 we, .slice A hs.length c] 27)).drew) := Below.drew (btS (btS B2.out (belE_c _ _)) (belE_c _ _))
    go_region_held3 (fun w' => w'.cell? ⟨w.heap.size, 0, none⟩ = some (.int .i64 st) ∧ w'.cell? ⟨w.heap.size, 1, none⟩ = some (.int .i64 en) ∧ w'.cell? ⟨w.heap.size, 2, none⟩ = some (.int .i64 mo) ∧ w'.cell? ⟨w.heap.size, 3, none⟩ = some (.bool bk) ∧ w'.cell? ⟨w.heap.size, 4, none⟩ = some (.bool la) ∧ w'.cell? ⟨w.heap.size, 5, none⟩ = some (.int .u8 sb) ∧ w'.cell? ⟨w.heap.size, 6, none⟩ = some (.int .u8 ro) ∧ w'.cell? ⟨w.heap.size, 7, none⟩ = some (.int .u8 we) ∧ w'.cell? ⟨w.heap.size, 8, none⟩ = some (.slice A hs.length c))
      (((try go_split_ands); (and_intros) <;> first | assumption | (go_keep; done)))
      (first | fail)
    all_goals
      go_wp2_with (first
        | (go_at_call 11; ((with_reducible refine (J1.out _ BX1.out).mono ?_); rintro x w3 ⟨A3, c3, rfl, h3, -, -, -, b⟩; obtain ⟨p0, p1, p2, p3, p4, p5, p6, p7, p8⟩ := (show _ from (by simpa using row9S (w := w2.alloc (.cells #[.int .i64 st, .int .i64 en, .int .i64 mo, .bool bk, .bool la, .int .u8 0, .int .u8 ro, .int .u8 we, .slice A hs.length c] 27)) (Below.drewB b)) : w3.cell? ⟨w2.heap.size + 1, 0, none⟩ = some (.int .i64 st) ∧ w3.cell? ⟨w2.heap.size + 1, 1, none⟩ = some (.int .i64 en) ∧ w3.cell? ⟨w2.heap.size + 1, 2, none⟩ = some (.int .i64 mo) ∧ w3.cell? ⟨w2.heap.size + 1, 3, none⟩ = some (.bool bk) ∧ w3.cell? ⟨w2.heap.size + 1, 4, none⟩ = some (.bool la) ∧ w3.cell? ⟨w2.heap.size + 1, 5, none⟩ = some (.int .u8 1) ∧ w3.cell? ⟨w2.heap.size + 1, 6, none⟩ = some (.int .u8 ro) ∧ w3.cell? ⟨w2.heap.size + 1, 7, none⟩ = some (.int .u8 we) ∧ w3.cell? ⟨w2.heap.size + 1, 8, none⟩ = some (.slice A hs.length c)); have C3 := Lib.hid (btS (Below.drew (btS (btS C2.out (belE_c _ _)) (belE_c _ _))) b); have B3 := Lib.hid (btS (belE_c _ _) C3.out); have K3 := Lib.hid h3; clear b h3))
        | (go_at_call 11; ((with_reducible refine (J1.out _ BX2.out).mono ?_); rintro x w3 ⟨A3, c3, rfl, h3, -, -, -, b⟩; obtain ⟨p0, p1, p2, p3, p4, p5, p6, p7, p8⟩ := row9S (w := w2) (btS (belE_c _ _) (Below.drewB b)); have C3 := Lib.hid (btS (Below.drew (btS (btS C2.out (belE_c _ _)) (belE_c _ _))) b); have B3 := Lib.hid (btS (belE_c _ _) C3.out); have K3 := Lib.hid h3; clear b h3))
        | (go_at_call 11; ((with_reducible refine (J2.out _ B3.out).mono ?_); rintro x w4 ⟨A4, c4, rfl, h4, -, -, -, b⟩; obtain ⟨q0, q1, q2, q3, q4, q5, q6, q7, q8⟩ := row9S (btS C3.out b); have C4 := Lib.hid (btS C3.out b); have B4 := Lib.hid (btS B3.out b); have K4 := Lib.hid h4; have K3b := Lib.hid (K3.out.below b); clear b h4 p0 p1 p2 p3 p4 p5 p6 p7 p8)))
      go_ret
      exact ⟨ret_boolD (by simp), B4.out⟩

end
end Go.Proofs.YtfheeipggedaiaaDoor

/- Layer 6: the program's walks: Dates. -/
import Derived.Test.YtfheeipggedaiaaDoorScT
import Derived.Test.YtfheeipggedaiaaDoorScK
namespace Go.Proofs.YtfheeipggedaiaaDoor
open Go Go.RowKit

section
variable (st en mo : Int) (bk la : Bool) (sb ro we : Int) (A : Option Addr) (c : Nat) (hs : List Int) (y m d : Int)
set_option maxRecDepth 100000 in
set_option maxHeartbeats 1600000 in
theorem pdates_bad (w : World) (H0 : ∀ W, Below w.heap.size w W → Calls Tryd.prog 15 #[.agg #[.int .i64 st, .int .i64 en, .int .i64 mo, .bool bk, .bool la, .int .u8 sb, .int .u8 ro, .int .u8 we, .slice A hs.length c]] W fun e w' => e = .returned (.int .i64 8) ∧ Below W.heap.size W w') :
    Calls Tryd.prog 11 #[.agg #[.int .i64 st, .int .i64 en, .int .i64 mo, .bool bk, .bool la, .int .u8 sb, .int .u8 ro, .int .u8 we, .slice A hs.length c]] w (DtsR [] 8 w) := by
  have J0 := Lib.hid H0
  clear H0
  go_enter Tryd.func11, Tryd.ntmps11
  go_wp2_with (go_at_call 15; ((with_reducible refine (J0.out _ (belE_c _ _)).mono ?_); rintro x w1 ⟨rfl, b⟩; have B1 := Lib.hid b; clear b))
  go_ret2
  exact dtsR_nil (btS (belE_c _ _) B1.out)
set_option maxRecDepth 100000 in
set_option maxHeartbeats 1600000 in
theorem pdates_list (L : List Int) (w : World) (H0 : ∀ W, Below w.heap.size w W → Calls Tryd.prog 15 #[.agg #[.int .i64 st, .int .i64 en, .int .i64 mo, .bool bk, .bool la, .int .u8 sb, .int .u8 ro, .int .u8 we, .slice A hs.length c]] W fun e w' => e = .returned (.int .i64 0) ∧ Below W.heap.size W w')
    (H1 : ∀ W, Below w.heap.size w W → Calls Tryd.prog 26 #[.agg #[.int .i64 st, .int .i64 en, .int .i64 mo, .bool bk, .bool la, .int .u8 sb, .int .u8 ro, .int .u8 we, .slice A hs.length c]] W (LstR L W)) :
    Calls Tryd.prog 11 #[.agg #[.int .i64 st, .int .i64 en, .int .i64 mo, .bool bk, .bool la, .int .u8 sb, .int .u8 ro, .int .u8 we, .slice A hs.length c]] w (DtsR (if 100 < L.length then [] else L) (if 100 < L.length then 4 else 0) w) := by
  have J0 := Lib.hid H0
  have J1 := Lib.hid H1
  clear H0 H1
  by_cases hl : 100 < L.length
  · rw [if_pos hl, if_pos hl]
    have hl' : 100 < (L.length : Int) := by omega
    clear hl
    go_enter Tryd.func11, Tryd.ntmps11
    go_wp2_with (first
      | (go_at_call 15; ((with_reducible refine (J0.out _ (belE_c _ _)).mono ?_); rintro x w1 ⟨rfl, b⟩; obtain ⟨q0, q1, q2, q3, q4, q5, q6, q7, q8⟩ := row9S b; have C1 := Lib.hid b; clear b))
      | (go_at_call 26; ((with_reducible refine (J1.out _ (btS (belE_c _ _) C1.out)).mono ?_); rintro x w2 ⟨A2, c2, rfl, h2, k2, k3, k4, b⟩; have K1 := Lib.hid h2; have K2 := Lib.hid k2; have K3 := Lib.hid k3; have K4 := Lib.hid k4; have B2 := Lib.hid (btS (btS (belE_c _ _) C1.out) b); clear b h2 k2 k3 k4)))
    go_ret2
    exact dtsR_nil B2.out
  · rw [if_neg hl, if_neg hl]
    have hl' : (L.length : Int) ≤ 100 := by omega
    clear hl
    go_enter Tryd.func11, Tryd.ntmps11
    go_wp2_with (first
      | (go_at_call 15; ((with_reducible refine (J0.out _ (belE_c _ _)).mono ?_); rintro x w1 ⟨rfl, b⟩; obtain ⟨q0, q1, q2, q3, q4, q5, q6, q7, q8⟩ := row9S b; have C1 := Lib.hid b; clear b))
      | (go_at_call 26; ((with_reducible refine (J1.out _ (btS (belE_c _ _) C1.out)).mono ?_); rintro x w2 ⟨A2, c2, rfl, h2, k2, k3, k4, b⟩; have K1 := Lib.hid h2; have K2 := Lib.hid k2; have K3 := Lib.hid k3; have K4 := Lib.hid k4; have B2 := Lib.hid (btS (btS (belE_c _ _) C1.out) b); clear b h2 k2 k3 k4)))
    go_ret2
    exact ⟨A2, c2, rfl, K1.out, K2.out, K3.out, K4.out, B2.out⟩
theorem pdates_any (w : World) (h : CalIn w we A c hs) (hV : VarD w) (hD : schB st en mo sb ro we hs = true → IsDate y m d (bsd st en bk)) :
    Calls Tryd.prog 11 #[.agg #[.int .i64 st, .int .i64 en, .int .i64 mo, .bool bk, .bool la, .int .u8 sb, .int .u8 ro, .int .u8 we, .slice A hs.length c]] w (DtsR (rdL st en mo bk la sb ro we hs y m d) (rdE st en mo bk la sb ro we hs y m d) w) := by
  have H0 := fun W (hW : Below w.heap.size w W) => pcheck_any st en mo bk la sb ro we A c hs W (h.below hW)
  cases hv : schB st en mo sb ro we hs
  · have e8 : rdE st en mo bk la sb ro we hs y m d = 8 := by unfold rdE; rw [hv]; rfl
    have eL : rdL st en mo bk la sb ro we hs y m d = [] := by unfold rdL; rw [e8]; rfl
    have ec : ckE st en mo sb ro we hs = 8 := by unfold ckE; rw [hv]; rfl
    rw [e8, eL]
    rw [ec] at H0
    exact pdates_bad st en mo bk la sb ro we A c hs w H0
  · have ec : ckE st en mo sb ro we hs = 0 := by unfold ckE; rw [hv]; rfl
    rw [ec] at H0
    obtain ⟨-, s0, e0, hlt, m0, hsb, hro⟩ := (schB_iff st en mo sb ro we hs).1 hv
    have hd := hD hv
    have hb : bsd st en bk ≤ 99999 := by unfold bsd; split <;> omega
    have H1 := fun W (hW : Below w.heap.size w W) => datesOf_any st en mo bk la sb ro we A c hs y m d m0.1 m0.2 hlt hd hb W (hV.below hW)
    have hP := pdates_list st en mo bk la sb ro we A c hs _ w H0 H1
    rw [dtL_len] at hP
    obtain ⟨k1, k2⟩ := rdE_U (la := la) (sb := sb) (ro := ro) (we := we) (hs := hs) m0.1 hlt hd hb hv
    rcases Nat.lt_or_ge 98 (rdU st en mo bk la sb y m d) with g | g
    · rw [if_pos (by omega), if_pos (by omega)] at hP
      rw [(k1 g).1, (k1 g).2]
      exact hP
    · rw [if_neg (by omega), if_neg (by omega)] at hP
      rw [(k2 g).1, (k2 g).2]
      exact hP
end
end Go.Proofs.YtfheeipggedaiaaDoor

/- Layer 6: the law ScheduleSteps. -/
import Derived.Test.YtfheeipggedaiaaDoorScZ
import Derived.Test.YtfheeipggedaiaaDoorScL3
namespace Go.Proofs.YtfheeipggedaiaaDoor
open Go Go.RowKit

section
variable (st en mo : Int) (bk la : Bool) (sb ro we : Int) (A : Option Addr) (c : Nat) (hs : List Int) (y m d : Int)
theorem reg_ok {k : Nat} (k0 : 1 ≤ k) (k1 : k ≤ regN st en mo bk la y m d) : stpE mo bk la y m d k = 0 := by
  obtain ⟨-, -, c, -⟩ := reg_spec (stpB st en mo bk la y m d) 101 0
  exact stpB_E (c k k0 k1)
theorem rdN6_le : rdN6 st en mo bk la sb y m d ≤ regN st en mo bk la y m d := by unfold rdN6; split <;> omega
end
section
variable (st en mo : Int) (bk la : Bool) (sb ro we : Int) (A : Option Addr) (c : Nat) (hs : List Int)
theorem steps_law6 (w : World) (h : CalIn w we A c hs) (hV : VarD w) :
    Calls Tryd.prog 7 #[.agg #[.int .i64 st, .int .i64 en, .int .i64 mo, .bool bk, .bool la, .int .u8 sb, .int .u8 ro, .int .u8 we, .slice A hs.length c]] w (OkS w) := by
  have H0 := fun W (hW : Below w.heap.size w W) => alive_any6 W (hV.below hW)
  cases hg : grtB hs
  · obtain ⟨y, m, d, hD⟩ := tri_ex st en mo bk sb ro we hs
    have H1 := fun W (hW : Below w.heap.size w W) => pdates_any st en mo bk la sb ro we A c hs y m d W (h.below hW) (hV.below hW) hD
    by_cases h0 : rdE st en mo bk la sb ro we hs y m d = 0
    · rw [h0] at H1
      obtain ⟨hv, hL, hn, -, hR⟩ := rdL_ok st en mo bk la sb ro we hs y m d h0
      obtain ⟨-, s0, e0, hse, m0, -, -⟩ := (schB_iff st en mo sb ro we hs).1 hv
      have hd := hD hv
      have hb : bsd st en bk ≤ 99999 := by unfold bsd; split <;> omega
      rw [hL] at H1
      have hnr := rdN6_le st en mo bk la sb y m d
      have hE : ∀ k, 1 ≤ k → k ≤ rdN6 st en mo bk la sb y m d → stpE mo bk la y m d k = 0 := fun k a b => reg_ok st en mo bk la y m d a (by omega)
      have HA : ∀ (k : Nat) W, 1 ≤ k → k < rdN6 st en mo bk la sb y m d + 1 → Below w.heap.size w W → Calls Tryd.prog 25 #[.int .i64 (bsd st en bk), .int .i64 (mth mo bk k), .bool la] W fun x w' => x = .returned (.tuple #[.int .i64 (stpV mo bk la y m d k), .int .i64 0]) ∧ W = w' := by
        intro k W a b hW
        have := progAddM la y m d _ (mth mo bk k) hd hb W (hV.below hW)
        have e : smE y m d (mth mo bk k) la = 0 := hE k a (by omega)
        rw [e] at this
        exact this
      generalize rdN6 st en mo bk la sb y m d = n at *
      generalize stpV mo bk la y m d = v at *
      have hlt : ∀ j, j < n + 1 → (dtL bk v n st en).getD j 0 < (dtL bk v n st en).getD (j + 1) 0 := fun j hj => by
        rw [dtL_get _ _ _ _ _ (by omega), dtL_get _ _ _ _ _ (by omega)]; exact hR.lt (by omega)
      have hz0 : (dtL bk v n st en).getD 0 0 = st := by rw [dtL_get _ _ _ _ _ (by omega), dtI_zero]
      have hzN : (dtL bk v n st en).getD (n + 1) 0 = en := by rw [dtL_get _ _ _ _ _ (by omega), dtI_end]
      cases bk
      · exact steps_ok0 st en mo la sb ro we A c hs _ (n + 1) (dtL_len _ _ _ _ _) (by omega) (by omega) v (fun k a b => by rw [dtL_get _ _ _ _ _ (by omega), dtI_mid _ _ _ _ _ (by omega) (by omega)]; rfl) hlt hz0 hzN m0.1 m0.2 w h hg H0 H1 HA
      · exact steps_ok1 st en mo la sb ro we A c hs _ (n + 1) (dtL_len _ _ _ _ _) (by omega) (by omega) v (fun k a b => by rw [dtL_get _ _ _ _ _ (by omega), dtI_mid _ _ _ _ _ (by omega) (by omega), if_pos rfl, show n + 1 - (n + 1 - k) = k by omega]) hlt hz0 hzN m0.1 m0.2 w h hg H0 H1 HA
    · rw [rdL_bad st en mo bk la sb ro we hs y m d h0] at H1
      exact steps_err st en mo bk la sb ro we A c hs _ (by rw [bne_iff_ne]; exact h0) w h hg H0 H1
  · exact steps_great st en mo bk la sb ro we A c hs w h hg H0
end
end Go.Proofs.YtfheeipggedaiaaDoor

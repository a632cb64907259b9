/- Layer 6: the law ScheduleCovers. -/
import Derived.Test.YtfheeipggedaiaaDoorScZ
import Derived.Test.YtfheeipggedaiaaDoorScL4
namespace Go.Proofs.YtfheeipggedaiaaDoor
open Go Go.RowKit

section
variable (st en mo : Int) (bk la : Bool) (sb ro we : Int) (A : Option Addr) (c : Nat) (hs : List Int)
theorem nE_some {o : Option Int} (h : nE o = 0) : ∃ x, o = some x ∧ nV o = x := by
  cases o with
  | none => cases h
  | some x => exact ⟨x, rfl, rfl⟩
theorem covers_law6 (w : World) (h : CalIn w we A c hs) (r0 : 0 ≤ ro) (hV : VarD w) :
    Calls Tryd.prog 6 #[.agg #[.int .i64 st, .int .i64 en, .int .i64 mo, .bool bk, .bool la, .int .u8 sb, .int .u8 ro, .int .u8 we, .slice A hs.length c]] w (OkS w) := by
  have H0 := fun W (hW : Below w.heap.size w W) => alive_any6 W (hV.below hW)
  cases hg : grtB hs
  · obtain ⟨y, m, d, hD⟩ := tri_ex st en mo bk sb ro we hs
    obtain ⟨S, hS⟩ := smF_ex
    have H1 := fun W (hW : Below w.heap.size w W) => pper_any st en mo bk la sb ro we A c hs y m d S W (h.below hW) (hV.below hW) r0 hS hD
    by_cases hE : prE st en mo bk la sb ro we hs y m d S = 0
    · have h0 : rdE st en mo bk la sb ro we hs y m d = 0 := by
        unfold prE at hE
        split at hE
        · assumption
        · exact hE
      have hok : prOk ro we hs S (rdL st en mo bk la sb ro we hs y m d) = true := by
        unfold prE at hE
        rw [if_pos h0] at hE
        cases hk : prOk ro we hs S (rdL st en mo bk la sb ro we hs y m d)
        · rw [hk] at hE; cases hE
        · rfl
      obtain ⟨hv, hL, hn, -, hR⟩ := rdL_ok st en mo bk la sb ro we hs y m d h0
      obtain ⟨hval, s0, e0, hse, m0, -, hro⟩ := (schB_iff st en mo sb ro we hs).1 hv
      have hP : prR st en mo bk la sb ro we hs y m d S = pmkL (rdL st en mo bk la sb ro we hs y m d) (rolV ro we hs S (rdL st en mo bk la sb ro we hs y m d)) ((rdL st en mo bk la sb ro we hs y m d).length - 1) := by unfold prR; rw [if_pos hE]
      have hq := (prOk_iff ro we hs S _).1 hok
      have hdays := rdL_days st en mo bk la sb ro we hs y m d h0
      rw [hE, hP] at H1
      have hlen : (rdL st en mo bk la sb ro we hs y m d).length = rdN6 st en mo bk la sb y m d + 1 + 1 := by rw [hL, dtL_len]
      have hF0 : (rdL st en mo bk la sb ro we hs y m d).getD 0 0 = st := by rw [hL, dtL_get _ _ _ _ _ (by omega), dtI_zero]
      have hFN : (rdL st en mo bk la sb ro we hs y m d).getD (rdN6 st en mo bk la sb y m d + 1) 0 = en := by rw [hL, dtL_get _ _ _ _ _ (by omega), dtI_end]
      have hlt : ∀ j, j < rdN6 st en mo bk la sb y m d + 1 → (rdL st en mo bk la sb ro we hs y m d).getD j 0 < (rdL st en mo bk la sb ro we hs y m d).getD (j + 1) 0 := fun j hj => by
        rw [hL, dtL_get _ _ _ _ _ (by omega), dtL_get _ _ _ _ _ (by omega)]; exact hR.lt (by omega)
      generalize rdN6 st en mo bk la sb y m d = n at *
      generalize rdL st en mo bk la sb ro we hs y m d = L at *
      have hday : ∀ j, j < L.length → 0 ≤ L.getD j 0 ∧ L.getD j 0 ≤ 99999 := fun j hj => hdays _ (by rw [List.getD_eq_getElem?_getD, List.getElem?_eq_getElem hj]; exact List.getElem_mem hj)
      have hro2 : ∀ j, j < L.length → ∃ x, rolO (S (L.getD j 0)) (bizB we hs) ro (L.getD j 0) = some x ∧ rolV ro we hs S L j = x := fun j hj => by
        have h1 := hq j hj
        unfold rolE rlE at h1
        unfold rolV rlV
        have hc : chkE we hs [L.getD j 0] = 0 := by rw [chk_oneC _ hval, (dayB_iff _).2 (hday j hj)]; rfl
        rw [if_pos hc, if_pos hro] at h1
        rw [if_pos hc, if_pos hro]
        exact nE_some h1
      have hle : ∀ j, j < n + 1 → rolV ro we hs S L j ≤ rolV ro we hs S L (j + 1) := fun j hj => by
        obtain ⟨x, hx, e1⟩ := hro2 j (by omega)
        obtain ⟨z, hz, e2⟩ := hro2 (j + 1) (by omega)
        rw [e1, e2]
        have d1 := hday j (by omega)
        have d2 := hday (j + 1) (by omega)
        have := hlt j hj
        exact rol_mono (hS _ d1.1) (hS _ d2.1) d1.1 (by omega) d2.2 hx hz
      have e9 : L.length - 1 = n + 1 := by omega
      rw [e9] at H1
      refine covers_ok st en mo bk la sb ro we A c hs (fun j => L.getD j 0) (rolV ro we hs S L) n hn _ (pmkL_len _ _ _) (fun j hj => ?_) hF0 hFN hlt hle w h hg H0 H1 (fun j W hj hW => ?_)
      · unfold pmkL; rw [List.getD_eq_getElem?_getD, List.getElem?_map, List.getElem?_range hj]; rfl
      · have := roll_any we A c hs (S (L.getD j 0)) (L.getD j 0) ro _ _ W (h.below hW) r0 (hS _) (hV.below hW) rfl rfl
        have e : rlE (S (L.getD j 0)) we hs (L.getD j 0) ro = 0 := hq j (by omega)
        rw [e] at this
        exact this
    · have e2 : prR st en mo bk la sb ro we hs y m d S = [] := by unfold prR; rw [if_neg hE]
      rw [e2] at H1
      exact covers_err st en mo bk la sb ro we A c hs _ (by rw [bne_iff_ne]; exact hE) w h hg H0 H1
  · exact covers_great st en mo bk la sb ro we A c hs w h hg H0
end
end Go.Proofs.YtfheeipggedaiaaDoor

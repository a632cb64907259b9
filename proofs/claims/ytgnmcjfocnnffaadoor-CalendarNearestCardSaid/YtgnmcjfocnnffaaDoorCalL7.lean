/- The law CalendarNearest. -/
import Derived.Test.YtgnmcjfocnnffaaDoorCalL6
namespace Go.Proofs.YtgnmcjfocnnffaaDoor
open Go Go.RowKit

/-- Where a rolled day stands. -/
structure Pos (p : Int → Bool) (day x : Int) : Prop where
  px : p x = true
  x0 : 0 ≤ x
  x1 : x ≤ 99999
  at' : x = day ∨ (x < day ∧ p day = false ∧ cumI p day = cumI p (x + 1)) ∨ (day < x ∧ p day = false ∧ cumI p x = cumI p day)
theorem pos_fw {p : Int → Bool} {day x : Int} (d0 : 0 ≤ day) (d1 : day ≤ 99999) (h : fwO p day 1 = some x) : Pos p day x ∧ day ≤ x := by
  rw [fw_iff p day 1 x d0 (by omega) (by omega)] at h
  obtain ⟨h1, h2, h3, h4⟩ := h
  refine ⟨⟨h1, by omega, h3, ?_⟩, h2⟩
  by_cases e : x = day
  · exact .inl e
  · refine .inr (.inr ⟨by omega, ?_, by omega⟩)
    rw [← Bool.not_eq_true]
    intro hp
    have := cumI_lt p d0 (by omega : day < x) hp
    omega
theorem pos_bw {p : Int → Bool} {day x : Int} (d0 : 0 ≤ day) (d1 : day ≤ 99999) (h : bwO p day 1 = some x) : Pos p day x ∧ x ≤ day := by
  rw [bw_iff p day 1 x (by omega) d1 (by omega)] at h
  obtain ⟨h1, h2, h3, h4⟩ := h
  refine ⟨⟨h1, h2, by omega, ?_⟩, h3⟩
  by_cases e : x = day
  · exact .inl e
  · have hs := cumI_succ p x h2
    rw [h1] at hs
    simp at hs
    have hm := (cumI_mono p (by omega : 0 ≤ x + 1) (by omega : x + 1 ≤ day)).1
    have hd := cumI_succ p day d0
    refine .inr (.inl ⟨by omega, ?_, ?_⟩)
    · rw [← Bool.not_eq_true]
      intro hp
      rw [hp] at hd
      simp at hd
      omega
    · split at hd <;> omega

section
variable {we : Int} {A : Option Addr} {c : Nat} {hs : List Int} {day : Int} {w : World}
theorem rlc_at (S : Int → Bool) (r : Int) (h : CalIn w we A c hs) (hV : VarD w) (hval : valB we hs = true) (hd : 0 ≤ day ∧ day ≤ 99999) (r0 : 0 ≤ r) (r1 : r ≤ 4) (hS : SmIs day S) :
    ∀ w', Below w.heap.size w w' → RlcS we A c hs day r (nV (rolO S (bizB we hs) r day)) (nE (rolO S (bizB we hs) r day)) w' := fun w' hw => by
  refine roll_any we A c hs S day r _ _ w' (h.below hw) r0 (fun _ => hS) (hV.below hw) ?_ ?_
  · unfold rlV; rw [if_pos (chk1_ok hval hd), if_pos r1]
  · unfold rlE; rw [if_pos (chk1_ok hval hd), if_pos r1]
theorem pos_bus (h : CalIn w we A c hs) (hval : valB we hs = true) (a : Int) (b : Bool) (ha : 0 ≤ a ∧ a ≤ 99999) (hb : bizB we hs a = b) : ∀ w', Below w.heap.size w w' → BusS we A c hs a b 0 w' := fun w' hw => by
  have := bus_at A c a hval ha w' (h.below hw)
  rw [hb] at this; exact this
theorem pos_cnt (h : CalIn w we A c hs) (hval : valB we hs = true) (a b : Int) (ha : 0 ≤ a ∧ a ≤ 99999) (hb : 0 ≤ b ∧ b ≤ 99999) (he : cumI (bizB we hs) a = cumI (bizB we hs) b) : ∀ w', Below w.heap.size w w' → CntS we A c hs a b 0 0 w' := fun w' hw => by
  refine count_any we A c hs a b 0 0 w' (h.below hw) ?_ (chk_ok hval ha hb)
  rw [(coV_ok (chk_ok hval ha hb)).1, he]; omega
theorem pts_at {a y m d : Int} (hV : VarD w) (h : IsDate y m d a) (ha : a ≤ 99999) : ∀ w', Below w.heap.size w w' → PtsS a y m d w' := fun w' hw => parts4_in y m d a h ha w' (hV.below hw)
end

theorem nearest_law (we : Int) (A : Option Addr) (c : Nat) (hs : List Int) (day r : Int) (w : World) (h : CalIn w we A c hs) (r0 : 0 ≤ r) (hV : VarS w) :
    Calls Tryd.prog 6 #[.agg #[.int .u8 we, .slice A hs.length c], .int .i64 day, .int .u8 r] w fun e w' => e = .returned (.bool true) ∧ Below w.heap.size w w' := by
  have hg : ∀ b, grtB hs = b → ∀ w', Below w.heap.size w w' → GrtS we A c hs b w' := fun b hb w' hw => great_any we A c hs b w' (h.below hw) hb
  cases hgr : grtB hs with
  | true => exact near_great we A c hs day r w h hV (hg true hgr)
  | false =>
    have hG := hg false hgr
    obtain ⟨S, hS⟩ : ∃ S, (0 ≤ day → SmIs day S) := by
      by_cases h0 : 0 ≤ day
      · obtain ⟨S, hS⟩ := smIs_ex day h0
        exact ⟨S, fun _ => hS⟩
      · exact ⟨fun _ => true, fun h' => absurd h' h0⟩
    have hr : ∀ w', Below w.heap.size w w' → RlcS we A c hs day r (rlV S we hs day r) (rlE S we hs day r) w' := fun w' hw => roll_any we A c hs S day r _ _ w' (h.below hw) r0 hS (hV.d.below hw) rfl rfl
    by_cases he : rlE S we hs day r = 0
    · obtain ⟨hval, hd, r4, ho⟩ : valB we hs = true ∧ (0 ≤ day ∧ day ≤ 99999) ∧ r ≤ 4 ∧ rolO S (bizB we hs) r day = some (rlV S we hs day r) := by
        unfold rlE at he
        by_cases hc : chkE we hs [day] = 0
        · rw [if_pos hc] at he
          obtain ⟨h1, h2⟩ := chk_val hc
          by_cases hi : r ≤ 4
          · rw [if_pos hi] at he
            refine ⟨h1, h2 day (by simp), hi, ?_⟩
            unfold rlV; rw [if_pos hc, if_pos hi]; exact nE_zero he
          · rw [if_neg hi] at he; simp at he
        · rw [if_neg hc] at he; exact absurd he hc
      have hS' := hS hd.1
      rw [he] at hr
      generalize rlV S we hs day r = x at hr ho
      obtain ⟨y, m, d, hdate⟩ := isDate_of day hd.1
      have hp1 := pts_at hV.d hdate hd.2
      have hr1 := rlc_at S 1 h hV.d hval hd (by decide) (by decide) hS'
      have hr2 := rlc_at S 2 h hV.d hval hd (by decide) (by decide) hS'
      rw [rolO_1] at hr1
      rw [rolO_2] at hr2
      have hBus := fun a b ha hb => pos_bus (w := w) (A := A) (c := c) h hval a b ha hb
      have hCnt := fun a b ha hb he => pos_cnt (w := w) (A := A) (c := c) h hval a b ha hb he
      have hrc : r = 0 ∨ r = 1 ∨ r = 2 ∨ r = 3 ∨ r = 4 := by omega
      rcases hrc with rfl | rfl | rfl | rfl | rfl
      · obtain rfl : day = x := by injection ho
        exact near_none we A c hs day w h hV hG hr
      · rw [rolO_1] at ho
        obtain ⟨⟨q1, q2, q3, q4⟩, q5⟩ := pos_fw hd.1 hd.2 ho
        rcases q4 with rfl | ⟨k1, k2, k3⟩ | ⟨k1, k2, k3⟩
        · exact near_1E we A c hs x w h hV hG hr (hBus _ _ hd q1) (hBus _ _ hd q1) (hCnt _ _ hd hd rfl)
        · omega
        · exact near_1G we A c hs day x w h hV hG hr (hBus _ _ ⟨q2, q3⟩ q1) (hBus _ _ hd k2) (hCnt _ _ hd ⟨q2, q3⟩ k3.symm) k1
      · rw [rolO_2] at ho
        obtain ⟨⟨q1, q2, q3, q4⟩, q5⟩ := pos_bw hd.1 hd.2 ho
        rcases q4 with rfl | ⟨k1, k2, k3⟩ | ⟨k1, k2, k3⟩
        · exact near_2E we A c hs x w h hV hG hr (hBus _ _ hd q1) (hBus _ _ hd q1) (hCnt _ _ hd hd rfl)
        · exact near_2L we A c hs day x w h hV hG hr (hBus _ _ ⟨q2, q3⟩ q1) (hBus _ _ hd k2) (hCnt _ _ ⟨by omega, by omega⟩ hd k3.symm) k1 hd.2 q2
        · omega
      · rw [rolO_3] at ho
        cases hf : fwO (bizB we hs) day 1 with
        | none =>
          rw [hf] at ho hr1
          have ho' : bwO (bizB we hs) day 1 = some x := ho
          rw [ho'] at hr2
          have hp2 := pts_at (w := w) hV.d (isDate_mk (by decide) : IsDate 1900 1 1 0) (by decide)
          obtain ⟨⟨q1, q2, q3, q4⟩, q5⟩ := pos_bw hd.1 hd.2 ho'
          rcases q4 with rfl | ⟨k1, k2, k3⟩ | ⟨k1, k2, k3⟩
          · exact near_3bE we A c hs x y m d _ _ _ 40 w h hV hG hr (hBus _ _ hd q1) (hBus _ _ hd q1) (hCnt _ _ hd hd rfl) hr1 hp1 hp2 hr2 (by decide)
          · exact near_3bL we A c hs day x y m d _ _ _ 40 w h hV hG hr (hBus _ _ ⟨q2, q3⟩ q1) (hBus _ _ hd k2) (hCnt _ _ ⟨by omega, by omega⟩ hd k3.symm) k1 hd.2 q2 hr1 hp1 hp2 hr2 (by decide)
          · omega
        | some t =>
          rw [hf] at ho hr1
          obtain ⟨⟨t1, t2, t3, t4⟩, t5⟩ := pos_fw hd.1 hd.2 hf
          obtain ⟨y2, m2, d2, hdt⟩ := isDate_of t t2
          have hp2 := pts_at hV.d hdt t3
          have hst := hS' t y m d y2 m2 d2 hdate hdt
          cases hs2 : S t with
          | true =>
            simp only [keepO, hs2, if_true] at ho
            obtain rfl : t = x := by injection ho
            rw [hs2] at hst
            obtain ⟨rfl, rfl⟩ : y = y2 ∧ m = m2 := by simpa using hst.symm
            rcases t4 with rfl | ⟨k1, k2, k3⟩ | ⟨k1, k2, k3⟩
            · exact near_3aE we A c hs t y m d d2 w h hV hG hr (hBus _ _ hd t1) (hBus _ _ hd t1) (hCnt _ _ hd hd rfl) hr1 hp1 hp2
            · omega
            · exact near_3aG we A c hs day t y m d d2 w h hV hG hr (hBus _ _ ⟨t2, t3⟩ t1) (hBus _ _ hd k2) (hCnt _ _ hd ⟨t2, t3⟩ k3.symm) k1 hr1 hp1 hp2
          | false =>
            simp only [keepO, hs2] at ho
            have ho' : bwO (bizB we hs) day 1 = some x := by simpa using ho
            rw [ho'] at hr2
            rw [hs2] at hst
            obtain ⟨⟨q1, q2, q3, q4⟩, q5⟩ := pos_bw hd.1 hd.2 ho'
            by_cases hy : y = y2
            · subst hy
              have hm : m ≠ m2 := by rintro rfl; simp at hst
              rcases q4 with rfl | ⟨k1, k2, k3⟩ | ⟨k1, k2, k3⟩
              · exact near_3dE we A c hs x t y m d m2 d2 w h hV hG hr (hBus _ _ hd q1) (hBus _ _ hd q1) (hCnt _ _ hd hd rfl) hr1 hp1 hp2 hr2 hm
              · exact near_3dL we A c hs day x t y m d m2 d2 w h hV hG hr (hBus _ _ ⟨q2, q3⟩ q1) (hBus _ _ hd k2) (hCnt _ _ ⟨by omega, by omega⟩ hd k3.symm) k1 hd.2 q2 hr1 hp1 hp2 hr2 hm
              · omega
            · rcases q4 with rfl | ⟨k1, k2, k3⟩ | ⟨k1, k2, k3⟩
              · exact near_3cE we A c hs x t y m d y2 m2 d2 w h hV hG hr (hBus _ _ hd q1) (hBus _ _ hd q1) (hCnt _ _ hd hd rfl) hr1 hp1 hp2 hr2 hy
              · exact near_3cL we A c hs day x t y m d y2 m2 d2 w h hV hG hr (hBus _ _ ⟨q2, q3⟩ q1) (hBus _ _ hd k2) (hCnt _ _ ⟨by omega, by omega⟩ hd k3.symm) k1 hd.2 q2 hr1 hp1 hp2 hr2 hy
              · omega
      · rw [rolO_4] at ho
        cases hf : bwO (bizB we hs) day 1 with
        | none =>
          rw [hf] at ho hr2
          have ho' : fwO (bizB we hs) day 1 = some x := ho
          rw [ho'] at hr1
          have hp2 := pts_at (w := w) hV.d (isDate_mk (by decide) : IsDate 1900 1 1 0) (by decide)
          obtain ⟨⟨q1, q2, q3, q4⟩, q5⟩ := pos_fw hd.1 hd.2 ho'
          rcases q4 with rfl | ⟨k1, k2, k3⟩ | ⟨k1, k2, k3⟩
          · exact near_4bE we A c hs x y m d _ _ _ 40 w h hV hG hr (hBus _ _ hd q1) (hBus _ _ hd q1) (hCnt _ _ hd hd rfl) hr2 hp1 hp2 hr1 (by decide)
          · omega
          · exact near_4bG we A c hs day x y m d _ _ _ 40 w h hV hG hr (hBus _ _ ⟨q2, q3⟩ q1) (hBus _ _ hd k2) (hCnt _ _ hd ⟨q2, q3⟩ k3.symm) k1 hr2 hp1 hp2 hr1 (by decide)
        | some t =>
          rw [hf] at ho hr2
          obtain ⟨⟨t1, t2, t3, t4⟩, t5⟩ := pos_bw hd.1 hd.2 hf
          obtain ⟨y2, m2, d2, hdt⟩ := isDate_of t t2
          have hp2 := pts_at hV.d hdt t3
          have hst := hS' t y m d y2 m2 d2 hdate hdt
          cases hs2 : S t with
          | true =>
            simp only [keepO, hs2, if_true] at ho
            obtain rfl : t = x := by injection ho
            rw [hs2] at hst
            obtain ⟨rfl, rfl⟩ : y = y2 ∧ m = m2 := by simpa using hst.symm
            rcases t4 with rfl | ⟨k1, k2, k3⟩ | ⟨k1, k2, k3⟩
            · exact near_4aE we A c hs t y m d d2 w h hV hG hr (hBus _ _ hd t1) (hBus _ _ hd t1) (hCnt _ _ hd hd rfl) hr2 hp1 hp2
            · exact near_4aL we A c hs day t y m d d2 w h hV hG hr (hBus _ _ ⟨t2, t3⟩ t1) (hBus _ _ hd k2) (hCnt _ _ ⟨by omega, by omega⟩ hd k3.symm) k1 hd.2 t2 hr2 hp1 hp2
            · omega
          | false =>
            simp only [keepO, hs2] at ho
            have ho' : fwO (bizB we hs) day 1 = some x := by simpa using ho
            rw [ho'] at hr1
            rw [hs2] at hst
            obtain ⟨⟨q1, q2, q3, q4⟩, q5⟩ := pos_fw hd.1 hd.2 ho'
            by_cases hy : y = y2
            · subst hy
              have hm : m ≠ m2 := by rintro rfl; simp at hst
              rcases q4 with rfl | ⟨k1, k2, k3⟩ | ⟨k1, k2, k3⟩
              · exact near_4dE we A c hs x t y m d m2 d2 w h hV hG hr (hBus _ _ hd q1) (hBus _ _ hd q1) (hCnt _ _ hd hd rfl) hr2 hp1 hp2 hr1 hm
              · omega
              · exact near_4dG we A c hs day x t y m d m2 d2 w h hV hG hr (hBus _ _ ⟨q2, q3⟩ q1) (hBus _ _ hd k2) (hCnt _ _ hd ⟨q2, q3⟩ k3.symm) k1 hr2 hp1 hp2 hr1 hm
            · rcases q4 with rfl | ⟨k1, k2, k3⟩ | ⟨k1, k2, k3⟩
              · exact near_4cE we A c hs x t y m d y2 m2 d2 w h hV hG hr (hBus _ _ hd q1) (hBus _ _ hd q1) (hCnt _ _ hd hd rfl) hr2 hp1 hp2 hr1 hy
              · omega
              · exact near_4cG we A c hs day x t y m d y2 m2 d2 w h hV hG hr (hBus _ _ ⟨q2, q3⟩ q1) (hBus _ _ hd k2) (hCnt _ _ hd ⟨q2, q3⟩ k3.symm) k1 hr2 hp1 hp2 hr1 hy
    · have hz : rlV S we hs day r = 0 := by
        unfold rlE at he
        unfold rlV
        split
        · next hc =>
          rw [if_pos hc] at he
          split
          · next hi => rw [if_pos hi] at he; exact nV_zero he
          · rfl
        · rfl
      rw [hz] at hr
      exact near_err we A c hs day r _ w h hV hG hr he
end Go.Proofs.YtgnmcjfocnnffaaDoor

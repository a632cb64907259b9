/- Layer 7: the walk of MoneyWords. -/
import Derived.Test.YtalnfbgaiegicaaGreatDoorMpA
namespace Go.Proofs.YtalnfbgaiegicaaGreatDoor
open Go Go.RowKit

section
set_option maxRecDepth 100000
set_option maxHeartbeats 3200000
theorem words_big (n : Int) (c s : ByteArray) (w : World) (hv : VarM w) (hb : 1000 < c.size ∨ c.size ≤ 1000 ∧ 1000 < s.size) :
    Calls Tryz.prog 9 #[.int .i64 n, .string c, .string s] w (BoM true w) := by
  have J0 := Lib.hid (alive7_any w hv)
  rcases hb with h | ⟨h, h2⟩
  · have h1 : 1000 < (c.size : Int) := by omega
    clear h hv
    go_enter Tryz.func9, Tryz.ntmps9
    go_wp2_with (go_at_call 17; ((with_reducible refine J0.out.mono ?_); rintro e w1 ⟨rfl, b⟩; have B1 := Lib.hid b; clear b))
    go_ret
    exact ⟨rfl, B1.out⟩
  · have h1 : (c.size : Int) ≤ 1000 := by omega
    have h3 : 1000 < (s.size : Int) := by omega
    clear h h2 hv
    go_enter Tryz.func9, Tryz.ntmps9
    go_wp2_with (go_at_call 17; ((with_reducible refine J0.out.mono ?_); rintro e w1 ⟨rfl, b⟩; have B1 := Lib.hid b; clear b))
    go_ret
    exact ⟨rfl, B1.out⟩
theorem words_walk (n : Int) (c s A : ByteArray) (ea : Int) (k : Int) (C : ByteArray) (f : Int) (w : World) (hv : VarM w) (hc : c.size ≤ 1000) (hs : s.size ≤ 1000)
    (h1 : ea = 0 ∨ (ea == 0) = false) (h2 : f = 0 ∨ (f != 0) = true ∧ k = 0 ∧ C = ⟨#[]⟩)
    (H1 : ∀ W, VarM W → Calls Tryz.prog 21 #[.int .i64 n, .string c] W (StE A ea W))
    (H2 : ea = 0 → ∀ W, VarM W → Calls Tryz.prog 23 #[.string A] W (RdR n c 0 W))
    (H3 : ∀ W, VarM W → Calls Tryz.prog 23 #[.string s] W (RdR k C f W))
    (H4 : f = 0 → ∀ W, VarM W → Calls Tryz.prog 21 #[.int .i64 k, .string C] W (StE s 0 W)) :
    Calls Tryz.prog 9 #[.int .i64 n, .string c, .string s] w (BoM true w) := by
  have HV := Lib.hid hv
  have J0 := Lib.hid (alive7_any w hv)
  have q1 : (s.toList == s.toList) = true := by simp
  have q2 : (c.toList == c.toList) = true := by simp
  have q2' : (c.toList != c.toList) = false := by simp
  have q3 : (n != n) = false := by simp
  have g1 : (c.size : Int) ≤ 1000 := by omega
  have g2 : (s.size : Int) ≤ 1000 := by omega
  have J1 := Lib.hid H1
  have J3 := Lib.hid H3
  clear hv hc hs H1 H3
  rcases h1 with rfl | h1
  · have J2 := Lib.hid (H2 rfl)
    rcases h2 with rfl | ⟨h2, rfl, rfl⟩
    · have J4 := Lib.hid (H4 rfl)
      clear H2 H4
      go_enter Tryz.func9, Tryz.ntmps9
      go_wp2_with (first
        | (go_at_call 17; ((with_reducible refine J0.out.mono ?_); rintro e w1 ⟨rfl, b⟩; have B1 := Lib.hid b; clear b))
        | (go_at_call 21; (have _t := B3; (with_reducible refine (J4.out _ (HV.out.below B4.out)).mono ?_); rintro e w5 ⟨rfl, b⟩; have B5 := Lib.hid (btM B4.out b); clear b))
        | (go_at_call 21; ((with_reducible refine (J1.out _ (HV.out.below B1.out)).mono ?_); rintro e w2 ⟨rfl, b⟩; have B2 := Lib.hid (btM B1.out b); clear b))
        | (go_at_call 23; (have _t := B3; (with_reducible refine (J3.out _ (HV.out.below B3.out)).mono ?_); rintro e w4 ⟨rfl, b⟩; have B4 := Lib.hid (btM B3.out b); clear b))
        | (go_at_call 23; ((with_reducible refine (J2.out _ (HV.out.below B2.out)).mono ?_); rintro e w3 ⟨rfl, b⟩; have B3 := Lib.hid (btM B2.out b); clear b)))
      go_ret
      exact ⟨rfl, B5.out⟩
    · clear H2 H4
      go_enter Tryz.func9, Tryz.ntmps9
      go_wp2_with (first
        | (go_at_call 17; ((with_reducible refine J0.out.mono ?_); rintro e w1 ⟨rfl, b⟩; have B1 := Lib.hid b; clear b))
        | (go_at_call 21; ((with_reducible refine (J1.out _ (HV.out.below B1.out)).mono ?_); rintro e w2 ⟨rfl, b⟩; have B2 := Lib.hid (btM B1.out b); clear b))
        | (go_at_call 23; (have _t := B3; (with_reducible refine (J3.out _ (HV.out.below B3.out)).mono ?_); rintro e w4 ⟨rfl, b⟩; have B4 := Lib.hid (btM B3.out b); clear b))
        | (go_at_call 23; ((with_reducible refine (J2.out _ (HV.out.below B2.out)).mono ?_); rintro e w3 ⟨rfl, b⟩; have B3 := Lib.hid (btM B2.out b); clear b)))
      go_ret
      exact ⟨rfl, B4.out⟩
  · rcases h2 with rfl | ⟨h2, rfl, rfl⟩
    · have J4 := Lib.hid (H4 rfl)
      clear H2 H4
      go_enter Tryz.func9, Tryz.ntmps9
      go_wp2_with (first
        | (go_at_call 17; ((with_reducible refine J0.out.mono ?_); rintro e w1 ⟨rfl, b⟩; have B1 := Lib.hid b; clear b))
        | (go_at_call 21; (have _t := B4; (with_reducible refine (J4.out _ (HV.out.below B4.out)).mono ?_); rintro e w5 ⟨rfl, b⟩; have B5 := Lib.hid (btM B4.out b); clear b))
        | (go_at_call 21; ((with_reducible refine (J1.out _ (HV.out.below B1.out)).mono ?_); rintro e w2 ⟨rfl, b⟩; have B2 := Lib.hid (btM B1.out b); clear b))
        | (go_at_call 23; ((with_reducible refine (J3.out _ (HV.out.below B2.out)).mono ?_); rintro e w4 ⟨rfl, b⟩; have B4 := Lib.hid (btM B2.out b); clear b)))
      go_ret
      exact ⟨rfl, B5.out⟩
    · clear H2 H4
      go_enter Tryz.func9, Tryz.ntmps9
      go_wp2_with (first
        | (go_at_call 17; ((with_reducible refine J0.out.mono ?_); rintro e w1 ⟨rfl, b⟩; have B1 := Lib.hid b; clear b))
        | (go_at_call 21; ((with_reducible refine (J1.out _ (HV.out.below B1.out)).mono ?_); rintro e w2 ⟨rfl, b⟩; have B2 := Lib.hid (btM B1.out b); clear b))
        | (go_at_call 23; ((with_reducible refine (J3.out _ (HV.out.below B2.out)).mono ?_); rintro e w4 ⟨rfl, b⟩; have B4 := Lib.hid (btM B2.out b); clear b)))
      go_ret
      exact ⟨rfl, B4.out⟩
end
theorem shL_len {n : Int} {c : List UInt8} (hn : amB n = true) (hc : c.length ≤ 40) : (shL n c).length ≤ 2000 := by
  have h1 := (amB_iff n).1 hn
  have l1 : n.natAbs < lim := by have := lim_big; omega
  have hl := len_of_chk (chk_of_abs l1)
  unfold shL
  rw [List.length_append, List.length_cons, ← ptL_itoa]
  unfold ptL ptM
  have hb := bod_length (Lib.itoa n)
  have hp := padM_len (unU c) (bod (Lib.itoa n))
  have hu3 : unU c ≤ 3 := by rcases unU_cases c with h | h | h <;> omega
  have e1 : ((if ngB (Lib.itoa n) then [45] else [] : List UInt8)).length ≤ 1 := by split <;> simp
  have e2 : ((if unU c = 0 then [] else 46 :: (padM (unU c) (bod (Lib.itoa n))).drop ((padM (unU c) (bod (Lib.itoa n))).length - unU c) : List UInt8)).length ≤ 1 + unU c := by
    split
    · simp
    · simp only [List.length_cons, List.length_drop]; omega
  simp only [List.length_append, List.length_take]
  omega
theorem words_law (n : Int) (c s : ByteArray) (w : World) (hv : VarM w) :
    Calls Tryz.prog 9 #[.int .i64 n, .string c, .string s] w (BoM true w) := by
  rcases Nat.lt_or_ge 1000 c.size with hc | hc
  · exact words_big n c s w hv (.inl hc)
  rcases Nat.lt_or_ge 1000 s.size with hs | hs
  · exact words_big n c s w hv (.inr ⟨hc, hs⟩)
  have H1 := fun W (hW : VarM W) => pshow_any n c W hW
  have H3 := fun W (hW : VarM W) => pread_any s (by omega) W hW
  refine words_walk n c s _ _ _ _ _ w hv hc hs ?_ ?_ H1 ?_ H3 ?_
  · unfold shE
    split
    · exact .inl rfl
    · exact .inr rfl
  · by_cases h : rdE7 s.data.toList = 0
    · exact .inl h
    · refine .inr ⟨by rw [bne_iff_ne]; exact h, ?_, ?_⟩
      · unfold rdN7; rw [if_neg h]
      · unfold rdC7; rw [if_neg h]
  · intro he W hW
    have hx : (nameB c.data.toList && amB n) = true := by
      unfold shE at he
      split at he
      · next h => exact h
      · cases he
    rw [Bool.and_eq_true] at hx
    obtain ⟨r1, r2, r3⟩ := read_show hx.1 hx.2
    have hcn : c.data.toList.length ≤ 40 := by have := ((name_iff c).1 hx.1).1.2; simpa using this
    have hsv : shV n c.data.toList = shL n c.data.toList := by unfold shV; rw [hx.1, hx.2]; rfl
    have := pread_any ⟨(shV n c.data.toList).toArray⟩ (by show (shV n c.data.toList).length ≤ _; rw [hsv]; have := shL_len hx.2 hcn; omega) W hW
    rw [show (⟨(shV n c.data.toList).toArray⟩ : ByteArray).data.toList = shL n c.data.toList from hsv, r1, r2, r3, ← ba_eq rfl] at this
    exact this
  · intro hf W hW
    obtain ⟨s1, s2, s3⟩ := show_read hf
    have := pshow_any (rdN7 s.data.toList) ⟨(rdC7 s.data.toList).toArray⟩ W hW
    rw [show (⟨(rdC7 s.data.toList).toArray⟩ : ByteArray).data.toList = rdC7 s.data.toList from rfl] at this
    unfold shV shE at this
    rw [s1, s2, Bool.and_true, if_pos rfl, if_pos rfl, s3, ← ba_eq rfl] at this
    exact this
end Go.Proofs.YtalnfbgaiegicaaGreatDoor

/- Layer 7: the reference's walks: Unit. -/
import Derived.Test.YtalnfbgaiegicaaGreatDoorMoB
namespace Go.Proofs.YtalnfbgaiegicaaGreatDoor
open Go Go.RowKit

theorem ba_beq {s : ByteArray} {l : List UInt8} (h : s.data.toList ≠ l) : (s.toList == l) = false := by
  rw [Lib.toList_data, beq_eq_false_iff_ne]
  exact h
theorem ba_of {s : ByteArray} {a : Array UInt8} (h : s.data.toList = a.toList) : s = ⟨a⟩ := by
  cases s with
  | mk d => exact congrArg ByteArray.mk (Array.toList_inj.1 h)
set_option maxRecDepth 100000 in
set_option maxHeartbeats 1600000 in
theorem runit_any (s : ByteArray) (w : World) :
    Calls Tryz.prog 18 #[.string s] w fun e w' => e = .returned (.tuple #[.int .i64 (unV s.data.toList), .int .i64 (unE s.data.toList)]) ∧ w = w' := by
  have HN := Lib.hid (fun b h => rname_any s b h w)
  unfold unV unE
  cases hn : nameB s.data.toList
  · have HC := Lib.hid (HN.out false hn)
    simp only [Bool.false_eq_true, if_false]
    clear HN hn
    go_enter Tryz.func18, Tryz.ntmps18
    go_wp2_with (go_at_call 41; ((with_reducible refine HC.out.mono ?_); rintro x w1 ⟨rfl, rfl⟩))
    go_ret2
    exact ⟨rfl, rfl⟩
  · have HC := Lib.hid (HN.out true hn)
    simp only [if_true]
    clear HN hn
    have hc : s = ⟨#[74, 80, 89]⟩ ∨ s = ⟨#[75, 82, 87]⟩ ∨ s = ⟨#[86, 78, 68]⟩ ∨ s = ⟨#[66, 72, 68]⟩ ∨ s = ⟨#[75, 87, 68]⟩ ∨ s = ⟨#[84, 78, 68]⟩ ∨
        (unU s.data.toList = 2 ∧ (s.toList == [74, 80, 89]) = false ∧ (s.toList == [75, 82, 87]) = false ∧ (s.toList == [86, 78, 68]) = false ∧ (s.toList == [66, 72, 68]) = false ∧ (s.toList == [75, 87, 68]) = false ∧ (s.toList == [84, 78, 68]) = false) := by
      by_cases h1 : s.data.toList = [74, 80, 89]
      · exact .inl (ba_of h1)
      by_cases h2 : s.data.toList = [75, 82, 87]
      · exact .inr (.inl (ba_of h2))
      by_cases h3 : s.data.toList = [86, 78, 68]
      · exact .inr (.inr (.inl (ba_of h3)))
      by_cases h4 : s.data.toList = [66, 72, 68]
      · exact .inr (.inr (.inr (.inl (ba_of h4))))
      by_cases h5 : s.data.toList = [75, 87, 68]
      · exact .inr (.inr (.inr (.inr (.inl (ba_of h5)))))
      by_cases h6 : s.data.toList = [84, 78, 68]
      · exact .inr (.inr (.inr (.inr (.inr (.inl (ba_of h6))))))
      · refine .inr (.inr (.inr (.inr (.inr (.inr ⟨?_, ba_beq h1, ba_beq h2, ba_beq h3, ba_beq h4, ba_beq h5, ba_beq h6⟩)))))
        unfold unU
        rw [if_neg (by simp [h1, h2, h3]), if_neg (by simp [h4, h5, h6])]
    rcases hc with rfl | rfl | rfl | rfl | rfl | rfl | ⟨hu, k1, k2, k3, k4, k5, k6⟩
    · have hv : (unU (⟨#[74, 80, 89]⟩ : ByteArray).data.toList : Int) = 0 := by decide
      rw [hv]
      go_enter Tryz.func18, Tryz.ntmps18
      go_wp2_with (go_at_call 41; ((with_reducible refine HC.out.mono ?_); rintro x w1 ⟨rfl, rfl⟩))
      go_ret2
      exact ⟨rfl, rfl⟩
    · have hv : (unU (⟨#[75, 82, 87]⟩ : ByteArray).data.toList : Int) = 0 := by decide
      rw [hv]
      go_enter Tryz.func18, Tryz.ntmps18
      go_wp2_with (go_at_call 41; ((with_reducible refine HC.out.mono ?_); rintro x w1 ⟨rfl, rfl⟩))
      go_ret2
      exact ⟨rfl, rfl⟩
    · have hv : (unU (⟨#[86, 78, 68]⟩ : ByteArray).data.toList : Int) = 0 := by decide
      rw [hv]
      go_enter Tryz.func18, Tryz.ntmps18
      go_wp2_with (go_at_call 41; ((with_reducible refine HC.out.mono ?_); rintro x w1 ⟨rfl, rfl⟩))
      go_ret2
      exact ⟨rfl, rfl⟩
    · have hv : (unU (⟨#[66, 72, 68]⟩ : ByteArray).data.toList : Int) = 3 := by decide
      rw [hv]
      go_enter Tryz.func18, Tryz.ntmps18
      go_wp2_with (go_at_call 41; ((with_reducible refine HC.out.mono ?_); rintro x w1 ⟨rfl, rfl⟩))
      go_ret2
      exact ⟨rfl, rfl⟩
    · have hv : (unU (⟨#[75, 87, 68]⟩ : ByteArray).data.toList : Int) = 3 := by decide
      rw [hv]
      go_enter Tryz.func18, Tryz.ntmps18
      go_wp2_with (go_at_call 41; ((with_reducible refine HC.out.mono ?_); rintro x w1 ⟨rfl, rfl⟩))
      go_ret2
      exact ⟨rfl, rfl⟩
    · have hv : (unU (⟨#[84, 78, 68]⟩ : ByteArray).data.toList : Int) = 3 := by decide
      rw [hv]
      go_enter Tryz.func18, Tryz.ntmps18
      go_wp2_with (go_at_call 41; ((with_reducible refine HC.out.mono ?_); rintro x w1 ⟨rfl, rfl⟩))
      go_ret2
      exact ⟨rfl, rfl⟩
    · rw [hu]
      clear hu
      go_enter Tryz.func18, Tryz.ntmps18
      go_wp2_with (go_at_call 41; ((with_reducible refine HC.out.mono ?_); rintro x w1 ⟨rfl, rfl⟩))
      go_ret2
      exact ⟨rfl, rfl⟩
end Go.Proofs.YtalnfbgaiegicaaGreatDoor

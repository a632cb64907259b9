/- The walks of the reference of layer 2: Great, Four. -/
import Derived.Test.YtgjhgkglfflmjaaGreatDoorRatJ
namespace Go.Proofs.YtgjhgkglfflmjaaGreatDoor
open Go Go.RowKit

theorem great2_one (s : ByteArray) (r : Bool) (hr : decide (2100 < s.size) = r) (w : World) (b : Nat) (h0 : w.cell? ⟨b, 0, none⟩ = some (.string s)) :
    Calls Tryz.prog 23 #[.slice (some ⟨b, 0, none⟩) 1 1] w fun e w' => e = .returned (.bool r) ∧ w = w' := by
  by_cases h : 2100 < s.size
  · obtain rfl : true = r := by rw [← hr]; exact (decide_eq_true h).symm
    clear hr
    go_enter Tryz.func23, Tryz.ntmps23
    go_wp2
    go_loop [3] (fun i => i = .int .i64 0) (fun i => 1 - (intOf i).toNat)
    case atStart => exact rfl
    case round =>
      subst hrel
      go_wp2
      go_ret
      exact ⟨rfl, rfl⟩
  · obtain rfl : false = r := by rw [← hr]; exact (decide_eq_false h).symm
    clear hr
    go_enter Tryz.func23, Tryz.ntmps23
    go_wp2
    go_loop [3] (fun i => ∃ k : Nat, k ≤ 1 ∧ i = .int .i64 k) (fun i => 1 - (intOf i).toNat)
    case atStart => exact ⟨0, by omega, rfl⟩
    case round =>
      obtain ⟨k, hk, rfl⟩ := hrel
      by_cases hlt : k < 1
      · obtain rfl : k = 0 := by omega
        clear hlt
        go_wp2
        go_round
        case rel => exact ⟨1, by omega, by go_num⟩
        case measure => simp [intOf]
      · obtain rfl : k = 1 := by omega
        go_wp2
        go_ret
        exact ⟨rfl, rfl⟩

theorem zero_parts : chkR [48] = 0 ∧ nB [48] = [48] ∧ dB [48] = [49] := by decide +kernel
def FourR (N D a b : ByteArray) (c : Int) (w : World) (e : Ending) (w' : World) : Prop := e = .returned (.tuple #[.string N, .string D, .string a, .string b, .int .i64 c]) ∧ Below w.heap.size w w'
set_option maxRecDepth 100000 in
set_option maxHeartbeats 800000 in
theorem four_zero_ok (s : ByteArray) (hs : s.size ≤ 1048576) (h0 : chkR s.data.toList = 0) (w : World) :
    Calls Tryz.prog 55 #[.string s, .string ⟨#[48]⟩] w (FourR ⟨(parS s.data.toList).1.toArray⟩ ⟨(parS s.data.toList).2.toArray⟩ ⟨[48].toArray⟩ ⟨[49].toArray⟩ (chkR s.data.toList) w) := by
  obtain ⟨z1, z2, z3⟩ := zero_parts
  have HC := Lib.hid (refRCheck_any s hs)
  have HZ := refRCheck_any ⟨#[48]⟩ (by decide)
  have HW := Lib.hid (written_any s hs)
  have HV := written_any ⟨#[48]⟩ (by decide)
  rw [show (⟨#[48]⟩ : ByteArray).data.toList = [48] from rfl, z1] at HZ
  rw [show (⟨#[48]⟩ : ByteArray).data.toList = [48] from rfl, z2, z3] at HV
  replace HZ := Lib.hid HZ
  replace HV := Lib.hid HV
  obtain ⟨p1, p2⟩ := parS_ok h0
  rw [p1, p2]
  rw [h0] at HC ⊢
  clear z1 z2 z3 h0 p1 p2 hs
  go_enter Tryz.func55, Tryz.ntmps55
  go_wp2_with (first
    | (go_at_call 27; (with_reducible refine (HC.out _).mono ?_); rintro e w1 ⟨rfl, b1⟩)
    | (go_at_call 27; (with_reducible refine (HZ.out _).mono ?_); rintro e w2 ⟨rfl, b⟩; have b2 := bt b1 b; clear b)
    | (go_at_call 61; (with_reducible refine (HW.out _).mono ?_); rintro e w3 ⟨rfl, k, rfl⟩; have b3 := below_drewN b2 k)
    | (go_at_call 61; (with_reducible refine (HV.out _).mono ?_); rintro e w4 ⟨rfl, j, rfl⟩; have b4 := below_drewN b3 j))
  exact bodyPost_ret (v := .tuple #[.string ⟨(nB s.data.toList).toArray⟩, .string ⟨(dB s.data.toList).toArray⟩, .string ⟨[48].toArray⟩, .string ⟨[49].toArray⟩, .int .i64 0]) (by simp [results, Tryz.results55, go_sem]) rfl ⟨rfl, below_drewN b2 (k + j)⟩
set_option maxRecDepth 100000 in
set_option maxHeartbeats 800000 in
theorem four_zero_err (s : ByteArray) (hs : s.size ≤ 1048576) (h0 : ¬ chkR s.data.toList = 0) (w : World) :
    Calls Tryz.prog 55 #[.string s, .string ⟨#[48]⟩] w (FourR ⟨(parS s.data.toList).1.toArray⟩ ⟨(parS s.data.toList).2.toArray⟩ ⟨#[]⟩ ⟨#[]⟩ (chkR s.data.toList) w) := by
  have HC := Lib.hid (refRCheck_any s hs)
  obtain ⟨p1, p2⟩ := parS_err rfl h0
  rw [p1, p2]
  obtain ⟨c, hc⟩ : ∃ c, chkR s.data.toList = c := ⟨_, rfl⟩
  rw [hc] at HC h0 ⊢
  have h1 : (c == 0) = false := by rw [beq_eq_false_iff_ne]; exact h0
  clear h0 p1 p2 hs hc
  go_enter Tryz.func55, Tryz.ntmps55
  go_wp2_with fail
  refine (HC.out _).mono ?_
  rintro e w1 ⟨rfl, b1⟩
  go_wp2_with fail
  refine (HC.out _).mono ?_
  rintro e w2 ⟨rfl, b⟩
  have b2 := bt b1 b
  clear b
  go_wp2
  exact bodyPost_ret (v := .tuple #[.string ⟨#[]⟩, .string ⟨#[]⟩, .string ⟨#[]⟩, .string ⟨#[]⟩, .int .i64 c]) (by simp [results, Tryz.results55, go_sem]) rfl ⟨rfl, b2⟩
end Go.Proofs.YtgjhgkglfflmjaaGreatDoor

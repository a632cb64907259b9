/- The walks of layer 1: the program's Add, Sub, Mul, Compare. -/
import Derived.Test.YtlipjedofegciaaDoorIntS2
namespace Go.Proofs.YtlipjedofegciaaDoor
open Go Go.RowKit

theorem or_any (b : Nat) (x y : Int) (w : World) (h0 : w.cell? ⟨b, 0, none⟩ = some (.int .i64 x)) (h1 : w.cell? ⟨b, 1, none⟩ = some (.int .i64 y)) :
    Calls Tryd.prog 45 #[.slice (some ⟨b, 0, none⟩) 2 2] w fun e w' => e = .returned (.int .i64 (if x = 0 then y else x)) ∧ w = w' := by
  by_cases hx : x = 0
  · subst hx
    rw [if_pos rfl]
    by_cases hy : y = 0
    · subst hy
      go_enter Tryd.func45, Tryd.ntmps45
      go_wp2
      go_loop [8] (fun i => ∃ k : Nat, k ≤ 2 ∧ i = .int .i64 k) (fun i => 2 - (intOf i).toNat)
      case atStart => exact ⟨0, by omega, rfl⟩
      case round =>
        obtain ⟨k, hk, rfl⟩ := hrel
        match k, hk with
        | 0, _ => go_wp2; go_round; (case rel => exact ⟨1, by omega, rfl⟩); (case measure => simp [intOf])
        | 1, _ => go_wp2; go_round; (case rel => exact ⟨2, by omega, rfl⟩); (case measure => simp [intOf])
        | 2, _ => go_wp2; go_ret; exact ⟨rfl, rfl⟩
    · have h2 : (y == 0) = false := by rw [beq_eq_false_iff_ne]; exact hy
      clear hy
      go_enter Tryd.func45, Tryd.ntmps45
      go_wp2
      go_loop [8] (fun i => ∃ k : Nat, k ≤ 1 ∧ i = .int .i64 k) (fun i => 2 - (intOf i).toNat)
      case atStart => exact ⟨0, by omega, rfl⟩
      case round =>
        obtain ⟨k, hk, rfl⟩ := hrel
        match k, hk with
        | 0, _ => go_wp2; go_round; (case rel => exact ⟨1, by omega, rfl⟩); (case measure => simp [intOf])
        | 1, _ => go_wp2; go_ret; exact ⟨rfl, rfl⟩
  · rw [if_neg hx]
    have h2 : (x == 0) = false := by rw [beq_eq_false_iff_ne]; exact hx
    clear hx
    go_enter Tryd.func45, Tryd.ntmps45
    go_wp2
    go_loop [8] (fun i => i = .int .i64 0) (fun i => 2 - (intOf i).toNat)
    case atStart => rfl
    case round =>
      obtain rfl := hrel
      go_wp2
      go_ret
      exact ⟨rfl, rfl⟩

end Go.Proofs.YtlipjedofegciaaDoor

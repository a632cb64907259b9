/- Joined: IntS, IntS2, IntO, IntO2, IntO3. -/
import Derived.Test.YtalejbabhjlehaaGreatDoorPk10
import Derived.Test.YtalejbabhjlehaaGreatDoorPk9
import Derived.Deep.RegionHeld3
/- The walks of layer 1: the sum of two numbers. -/
namespace Go.Proofs.YtalejbabhjlehaaGreatDoor
open Go Go.RowKit
theorem sc_row {w : World} {r : Nat} {a b : Value} {t : TypeId} (v1 v2 : Value) (h : w.heap[r]? = some (.cells #[a, b] t (0, 0))) : ((w.setCell ⟨r, 0, none⟩ v1).setCell ⟨r, 1, none⟩ v2).heap[r]? = some (.cells #[v1, v2] t (0, 0)) := by
  simp [World.setCell, Array.getElem?_modify, h]
end Go.Proofs.YtalejbabhjlehaaGreatDoor
/- The walks of layer 1: the sum of two numbers, on. -/
namespace Go.Proofs.YtalejbabhjlehaaGreatDoor
open Go Go.RowKit
theorem row2 {w : World} {r : Nat} {a b : Value} {t : TypeId} (h : w.heap[r]? = some (.cells #[a, b] t (0, 0))) : w.cell? ⟨r, 0, none⟩ = some a ∧ w.cell? ⟨r, 1, none⟩ = some b ∧ w.frozen? ⟨r, 0, none⟩ = false ∧ w.frozen? ⟨r, 1, none⟩ = false := by
  refine ⟨?_, ?_, ?_, ?_⟩ <;> simp [World.cell?, World.frozen?, h]
end Go.Proofs.YtalejbabhjlehaaGreatDoor
/- The walks of layer 1: the program's Add, Sub, Mul, Compare. -/
namespace Go.Proofs.YtalejbabhjlehaaGreatDoor
open Go Go.RowKit
theorem or_any (b : Nat) (x y : Int) (w : World) (h0 : w.cell? ⟨b, 0, none⟩ = some (.int .i64 x)) (h1 : w.cell? ⟨b, 1, none⟩ = some (.int .i64 y)) :
    Calls Tryz.prog 155 #[.slice (some ⟨b, 0, none⟩) 2 2] w fun e w' => e = .returned (.int .i64 (if x = 0 then y else x)) ∧ w = w' := by
  by_cases hx : x = 0
  · subst hx
    rw [if_pos rfl]
    by_cases hy : y = 0
    · subst hy
      go_enter Tryz.func155, Tryz.ntmps155
      go_wp2
      go_loop [8] (fun i => ∃ k : Nat, k ≤ 2 ∧ i = .int .i64 k) (fun i => 2 - (intOf i).toNat)
      case atStart => exact ⟨0, by omega, rfl⟩
      case round =>
        obtain ⟨k, hk, rfl⟩ := hrel
        match k, hk with
        | 0, _ => go_wp2; go_round; (case rel => exact ⟨1, by omega, rfl⟩); (case measure => simp [intOf])
        | 1, _ => go_wp2; go_round; (case rel => exact ⟨2, by omega, rfl⟩); (case measure => simp [intOf])
        | 2, _ => go_wp2; go_ret; exact ⟨rfl, rfl⟩
    · have h2 : (y == 0) = false := by rw [beq_eq_false_iff_ne]; exact hy
      clear hy
      go_enter Tryz.func155, Tryz.ntmps155
      go_wp2
      go_loop [8] (fun i => ∃ k : Nat, k ≤ 1 ∧ i = .int .i64 k) (fun i => 2 - (intOf i).toNat)
      case atStart => exact ⟨0, by omega, rfl⟩
      case round =>
        obtain ⟨k, hk, rfl⟩ := hrel
        match k, hk with
        | 0, _ => go_wp2; go_round; (case rel => exact ⟨1, by omega, rfl⟩); (case measure => simp [intOf])
        | 1, _ => go_wp2; go_ret; exact ⟨rfl, rfl⟩
  · rw [if_neg hx]
    have h2 : (x == 0) = false := by rw [beq_eq_false_iff_ne]; exact hx
    clear hx
    go_enter Tryz.func155, Tryz.ntmps155
    go_wp2
    go_loop [8] (fun i => i = .int .i64 0) (fun i => 2 - (intOf i).toNat)
    case atStart => rfl
    case round =>
      obtain rfl := hrel
      go_wp2
      go_ret
      exact ⟨rfl, rfl⟩
end Go.Proofs.YtalejbabhjlehaaGreatDoor
/- The walks of layer 1: the program's Add, Sub, Mul, Compare. -/
namespace Go.Proofs.YtalejbabhjlehaaGreatDoor
open Go Go.RowKit
theorem or_new (x y : Int) (w : World) (t : TypeId) :
    Calls Tryz.prog 155 #[.slice (some ⟨w.heap.size, 0, none⟩) 2 2] (w.alloc (.cells #[.int .i64 x, .int .i64 y] t)) fun e w' => e = .returned (.int .i64 (if x = 0 then y else x)) ∧ w.alloc (.cells #[.int .i64 x, .int .i64 y] t) = w' := by
  refine or_any _ x y _ ?_ ?_
  · rw [World.cell?_alloc_at _ _ _ _ rfl]; rfl
  · rw [World.cell?_alloc_at _ _ _ _ rfl]; rfl
def ParR (l : List UInt8) (w : World) (e : Ending) (w' : World) : Prop :=
  ∃ m A c zs, e = .returned (.agg #[.bool m, .slice A zs.length c]) ∧ SlA encU w' A zs ∧ Nrm zs ∧ num l = sgn m (vl 1000000000 zs) ∧ zs.length ≤ 112 ∧ zs.length ≤ c ∧ c ≤ maxLen ∧ Below w.heap.size w w'
theorem parse_r (s : ByteArray) (h : chk s.data.toList = 0) (w : World) : Calls Tryz.prog 156 #[.string s] w (ParR s.data.toList w) :=
  (parse_any s h w).mono fun _ _ ⟨A, c, zs, h1, h2, h3, h4, h5⟩ => ⟨_, A, c, zs, h1, h2, h3, h4, h5⟩
theorem Nrm.pos {zs : List Nat} (h : Nrm zs) (h0 : zs ≠ []) : 0 < vl 1000000000 zs := by
  obtain ⟨ys, q, rfl⟩ : ∃ ys q, zs = ys ++ [q] := ⟨_, _, (List.dropLast_concat_getLast h0).symm⟩
  have hq := h.top h0
  rw [List.length_append, List.length_singleton, Nat.add_sub_cancel, List.getD_eq_getElem?_getD] at hq
  simp at hq
  rw [vl_snoc]
  have : 0 < 1000000000 ^ ys.length * q := Nat.mul_pos (Nat.pow_pos (by omega)) (by omega)
  omega
section
variable (s t : ByteArray) (hs : s.size ≤ maxLen) (ht : t.size ≤ maxLen) (w : World) (hv : VarT w)
include hs ht hv
end
end Go.Proofs.YtalejbabhjlehaaGreatDoor
/- The walks of layer 1: the program's Mul. -/
namespace Go.Proofs.YtalejbabhjlehaaGreatDoor
open Go Go.RowKit
section
variable (s t : ByteArray) (hs : s.size ≤ maxLen) (ht : t.size ≤ maxLen) (w : World) (hv : VarT w)
include hs ht hv
end
end Go.Proofs.YtalejbabhjlehaaGreatDoor

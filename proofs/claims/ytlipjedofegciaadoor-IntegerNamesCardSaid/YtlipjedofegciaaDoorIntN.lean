/- Layer 1: integers of nines. -/
import Derived.Test.YtlipjedofegciaaDoorIntF4
namespace Go.Proofs.YtlipjedofegciaaDoor
open Go Go.RowKit

def nine (n : Nat) : List UInt8 := List.replicate n 57
theorem nine_dgs : ∀ n, vl 10 (dgs (nine n)) + 1 = 10 ^ n := by
  intro n
  have h : dgs (nine n) = List.replicate n 9 := by
    unfold dgs nine
    rw [List.reverse_replicate, List.map_replicate]; rfl
  rw [h]
  clear h
  induction n with
  | zero => rfl
  | succ n ih =>
    rw [List.replicate_succ, Nat.pow_succ]
    simp only [vl]
    omega
theorem nine_ng (n : Nat) : ngB (nine n) = false := by
  cases n with
  | zero => rfl
  | succ n => rfl
theorem nine_bod (n : Nat) : bod (nine n) = nine n := bod_pos _ (nine_ng n)
theorem nine_num (n : Nat) : num (nine n) = (10 ^ n : Nat) - 1 := by
  have h := nine_dgs n
  unfold num
  rw [nine_ng, nine_bod, ← h]
  simp
theorem nine_chk (n : Nat) (h : 0 < n) : chk (nine n) = if 1000 < n then 14 else 0 := by
  obtain ⟨m, rfl⟩ : ∃ m, n = m + 1 := ⟨n - 1, by omega⟩
  have h0 : ¬ nine (m + 1) = [48] := by unfold nine; rw [List.replicate_succ]; simp
  have h1 : szB (nine (m + 1)) = true := by unfold nine; rw [List.replicate_succ]; rfl
  have h2 : odB (nine (m + 1)) = true := by unfold odB nine; rw [List.all_replicate]; simp [dgB]
  have h3 : (nine (m + 1)).length = m + 1 := by unfold nine; simp
  unfold chk
  rw [if_neg h0, nine_bod, h1, h2, h3]
  rfl
theorem minus_nine (n : Nat) : ngB (45 :: nine n) = true ∧ bod (45 :: nine n) = nine n := ⟨rfl, bod_neg _⟩
theorem minus_num (n : Nat) : num (45 :: nine n) = -((10 ^ n : Nat) - 1 : Int) := by
  have h := nine_num n
  have h2 := nine_dgs n
  unfold num
  rw [(minus_nine n).1, (minus_nine n).2, ← h2]
  simp
theorem minus_chk (n : Nat) (h : 0 < n) : chk (45 :: nine n) = if 1000 < n then 14 else 0 := by
  obtain ⟨m, rfl⟩ : ∃ m, n = m + 1 := ⟨n - 1, by omega⟩
  have h0 : ¬ 45 :: nine (m + 1) = [48] := by simp
  have h1 : szB (nine (m + 1)) = true := by unfold nine; rw [List.replicate_succ]; rfl
  have h2 : odB (nine (m + 1)) = true := by unfold odB nine; rw [List.all_replicate]; simp [dgB]
  have h3 : (nine (m + 1)).length = m + 1 := by unfold nine; simp
  unfold chk
  rw [if_neg h0, (minus_nine _).2, h1, h2, h3]
  rfl
/-- The greatest integer of 1,000 digits. -/
theorem big_facts : ∃ big : List UInt8, big = nine thou ∧ chk big = 0 ∧ num big = (lim : Int) - 1 ∧ chk (45 :: big) = 0 ∧ num (45 :: big) = -((lim : Int) - 1) ∧ big.length = thou :=
  ⟨nine thou, rfl, by rw [nine_chk thou (by decide), if_neg (by decide)], by unfold lim; exact nine_num thou, by rw [minus_chk thou (by decide), if_neg (by decide)], by unfold lim; exact minus_num thou, by unfold nine; simp⟩
theorem big1_facts : chk (nine 1001) = 14 := by rw [nine_chk 1001 (by decide)]; rfl

set_option maxRecDepth 100000 in
set_option maxHeartbeats 800000 in
theorem nines_any (n : Nat) (hn : n ≤ 1000000) (w : World) : Calls Tryd.prog 13 #[.int .i64 n] w fun e w' => e = .returned (.string ⟨(nine n).toArray⟩) ∧ Below w.heap.size w w' := by
  obtain ⟨i0, hi, hz0, hz1, hz2⟩ := info_parts Tryd.info5'
  go_enter Tryd.func13, Tryd.ntmps13
  go_wp2
  go_loopw [3, 4] (fun b i wr => ∃ k : Nat, k ≤ n ∧ i = .int .i64 k ∧ wr.ownsRow w.heap.size 5 1 b k (Lib.byteCells (nine k)) ∧ Below w.heap.size w wr) (fun _ i _ => n - (intOf i).toNat)
  case atStart => exact ⟨0, Nat.zero_le _, rfl, World.ownsRow_nil _ _ _ _, Below.refl _ _⟩
  case round =>
    obtain ⟨k, hk, rfl, hown, hbel⟩ := hrel
    by_cases hlt : k < n
    · have hsz := hbel.size
      go_wp2_with (at_builtin; refine wpList_app1 hown _ rfl _ _ 64 rfl i0 (.int .u8 0) 1 Tryd.underlying64 hi hz0 hz1 hz2 rfl rfl rfl rfl (by unfold maxLen; omega) (by omega) (by omega) ?_; intro v' w' hown' hb')
      go_roundw
      case rel => exact ⟨k + 1, by omega, by go_num, by
        have := own_byte hown' (n := 57) rfl (by omega)
        rw [show nine k ++ [UInt8.ofNat 57] = nine (k + 1) by unfold nine; rw [List.replicate_succ']; rfl] at this
        exact this, hbel.trans hb'⟩
      case measure => simp [intOf]; omega
    · obtain rfl : k = n := by omega
      have HC := conv_own (P := Tryd.prog) hown 64 22 Tryd.underlying64 Tryd.underlying5 Tryd.underlying22
      clear hown
      go_wp2
      go_ret
      exact ⟨rfl, hbel⟩
end Go.Proofs.YtlipjedofegciaaDoor

/- Layer 3: the reference's walks over texts. -/
import Derived.Test.YteigcgncbkjmaaaDoorDatH
import Derived.Test.YteigcgncbkjmaaaDoorDatE
namespace Go.Proofs.YteigcgncbkjmaaaDoor
open Go Go.RowKit

/-- The last k digits of n. -/
def figs (n : Int) : Nat → List UInt8
  | 0 => []
  | k + 1 => figs (n / 10) k ++ [dgU n]

theorem figs_step (z : Int) (k j : Nat) (h : j < k) : figs z (k - j) = figs (z / 10) (k - (j + 1)) ++ [dgU z] := by
  rw [show k - j = (k - (j + 1)) + 1 by omega]; rfl
theorem conv_digit (w : World) (z : Int) :
    (convert 62 9 (.slice (some ⟨w.heap.size, 0, none⟩) 1 1)).run Tryd.prog (w.alloc (.cells #[.int .u8 (48 + z % 10)] 5)) = .ok (.string ⟨[dgU z].toArray⟩) (w.alloc (.cells #[.int .u8 (48 + z % 10)] 5)) := by
  refine run_convert_bytes_back _ 62 9 5 ⟨w.heap.size, 0, none⟩ 1 [dgU z] Tryd.underlying62 Tryd.underlying5 Tryd.underlying9 fun j hj => ?_
  obtain rfl : j = 0 := by simpa using hj
  have h := dgU_nat z
  show (w.alloc _).cell? ⟨w.heap.size, 0, none⟩ = some (.int .u8 ((dgU z).toNat : Int))
  rw [World.cell?_alloc_at _ _ _ _ rfl, h]
  rfl

set_option maxRecDepth 100000 in
set_option maxHeartbeats 800000 in
theorem figures_any (n : Int) (k : Nat) (h0 : 0 ≤ n) (h1 : n ≤ 100000) (hk : k ≤ 4) (w : World) :
    Calls Tryd.prog 40 #[.int .i64 n, .int .i64 k] w fun r w' => r = .returned (.string ⟨(figs n k).toArray⟩) ∧ Below w.heap.size w w' := by
  go_enter Tryd.func40, Tryd.ntmps40
  go_wp2
  go_loopw [0, 5, 6] (fun m s i wr => ∃ (j : Nat) (S : ByteArray) (z : Int), j ≤ k ∧ i = .int .i64 j ∧ m = .int .i64 z ∧ 0 ≤ z ∧ z ≤ 100000 ∧ s = .string S ∧ S.size = j ∧ Hid (figs z (k - j) ++ S.data.toList = figs n k) ∧ Hid (Below w.heap.size w wr)) (fun _ _ i _ => k - (intOf i).toNat)
  case atStart => exact ⟨0, ⟨#[]⟩, n, by omega, rfl, rfl, h0, h1, rfl, rfl, by show _ = _; simp, Below.refl _ _⟩
  case round =>
    obtain ⟨j, S, z, hj, rfl, rfl, z0, z1, rfl, hn, hl, hb⟩ := hrel
    by_cases hlt : j < k
    · have hlt' : (j : Int) < (k : Int) := by omega
      have hcv := conv_digit wr z
      obtain ⟨D, hD⟩ : ∃ D : ByteArray, ⟨[dgU z].toArray⟩ = D := ⟨_, rfl⟩
      rw [hD] at hcv
      have hDs : D.size = 1 := by rw [← hD]; rfl
      have hfit : ¬ 9223372036854775807 < D.size + S.size := by omega
      have HL : Hid (figs (z / 10) (k - (j + 1)) ++ (D ++ S).data.toList = figs n k) := by
        show _ = _
        rw [app_list, ← hD, ← hl.out, figs_step z k j hlt, List.append_assoc]
      have hsz : (D ++ S).size = j + 1 := by rw [ByteArray.size_append]; omega
      have HB : Hid (Below w.heap.size w (wr.alloc (.cells #[.int .u8 (48 + z % 10)] 5))) := hb.out.alloc hb.out.size _
      clear hl hb hD
      go_wp2
      go_round
      case rel => exact ⟨j + 1, D ++ S, z / 10, by omega, int_eq (by omega), rfl, by omega, by omega, rfl, hsz, HL, HB⟩
      case measure => simp [intOf]; omega
    · obtain rfl : j = k := by omega
      have hlt' : ¬ (j : Int) < (j : Int) := by omega
      have HL : Hid (S.data.toList = figs n j) := by
        show _ = _
        rw [← hl.out, Nat.sub_self]; rfl
      clear hl
      go_wp2
      go_ret
      exact ⟨ret_ba (by rw [HL.out]), hb.out⟩
theorem figs4 (n : Int) : figs n 4 = four n := by
  have e1 : n / 10 / 10 = n / 100 := by omega
  have e2 : n / 100 / 10 = n / 1000 := by omega
  show ((([] ++ [dgU (n / 10 / 10 / 10)]) ++ [dgU (n / 10 / 10)]) ++ [dgU (n / 10)]) ++ [dgU n] = _
  rw [e1, e2]; rfl
theorem figs2 (n : Int) : figs n 2 = two n := rfl
theorem fig_at (n : Int) (k : Nat) (l : List UInt8) (h0 : 0 ≤ n) (h1 : n ≤ 100000) (hk : k ≤ 4) (hl : figs n k = l) (w : World) :
    Calls Tryd.prog 40 #[.int .i64 n, .int .i64 k] w fun r w' => r = .returned (.string ⟨l.toArray⟩) ∧ Below w.heap.size w w' := by
  rw [← hl]; exact figures_any n k h0 h1 hk w

set_option maxRecDepth 100000 in
set_option maxHeartbeats 800000 in
theorem refText_out (n : Int) (h : n < 0 ∨ 99999 < n) (w : World) :
    Calls Tryd.prog 27 #[.int .i64 n] w fun e w' => e = .returned (.tuple #[.string ⟨#[]⟩, .int .i64 2]) ∧ w = w' := by
  have HP := Lib.hid (refParts_out n h w)
  clear h
  go_enter Tryd.func27, Tryd.ntmps27
  go_wp2_with (go_at_call 21; ((with_reducible refine HP.out.mono ?_); rintro e w' ⟨rfl, rfl⟩))
  go_ret2
  exact ⟨rfl, rfl⟩

set_option maxRecDepth 100000 in
set_option maxHeartbeats 800000 in
theorem refText_in (Y M D n : Int) (h : IsDate Y M D n) (hn : n ≤ 99999) (w : World) :
    Calls Tryd.prog 27 #[.int .i64 n] w fun e w' => e = .returned (.tuple #[.string ⟨(txt Y M D).toArray⟩, .int .i64 0]) ∧ Below w.heap.size w w' := by
  have HP := Lib.hid (refParts_in Y M D n h hn w)
  have y0 := h.y0; have y1 := h.y1 hn; have m0 := h.m0; have m1 := h.m1; have d0 := h.d0; have d1 := h.d31
  have HY := Lib.hid (fun w1 => fig_at Y 4 (four Y) (by omega) (by omega) (by omega) (figs4 Y) w1)
  have HM := Lib.hid (fun w1 => fig_at M 2 (two M) (by omega) (by omega) (by omega) (figs2 M) w1)
  have HD := Lib.hid (fun w1 => fig_at D 2 (two D) (by omega) (by omega) (by omega) (figs2 D) w1)
  rw [show ((4 : Nat) : Int) = 4 from rfl] at HY
  rw [show ((2 : Nat) : Int) = 2 from rfl] at HM HD
  have HT : Hid (four Y ++ [45] ++ two M ++ [45] ++ two D = txt Y M D) := rfl
  obtain ⟨sy, hy⟩ : ∃ s : ByteArray, s = ⟨(four Y).toArray⟩ := ⟨_, rfl⟩
  obtain ⟨sm, hm⟩ : ∃ s : ByteArray, s = ⟨(two M).toArray⟩ := ⟨_, rfl⟩
  obtain ⟨sd, hd⟩ : ∃ s : ByteArray, s = ⟨(two D).toArray⟩ := ⟨_, rfl⟩
  have zy : sy.size ≤ 4 := by rw [hy]; exact Nat.le_refl _
  have zm : sm.size ≤ 2 := by rw [hm]; exact Nat.le_refl _
  have zd : sd.size ≤ 2 := by rw [hd]; exact Nat.le_refl _
  rw [← hy] at HY
  rw [← hm] at HM
  rw [← hd] at HD
  have EY := Lib.hid hy
  have EM := Lib.hid hm
  have ED := Lib.hid hd
  have hs1 : sy.size + (⟨#[45]⟩ : ByteArray).size ≤ 9223372036854775807 := by show sy.size + 1 ≤ _; omega
  have hs2 : (sy ++ ⟨#[45]⟩).size + sm.size ≤ 9223372036854775807 := by rw [ByteArray.size_append]; show sy.size + 1 + _ ≤ _; omega
  have hs3 : (sy ++ ⟨#[45]⟩ ++ sm).size + (⟨#[45]⟩ : ByteArray).size ≤ 9223372036854775807 := by rw [ByteArray.size_append, ByteArray.size_append]; show sy.size + 1 + _ + 1 ≤ _; omega
  have hs4 : (sy ++ ⟨#[45]⟩ ++ sm ++ ⟨#[45]⟩).size + sd.size ≤ 9223372036854775807 := by rw [ByteArray.size_append, ByteArray.size_append, ByteArray.size_append]; show sy.size + 1 + _ + 1 + _ ≤ _; omega
  clear h hn hy hm hd
  go_enter Tryd.func27, Tryd.ntmps27
  go_wp2_with (first
    | (go_at_call 21; ((with_reducible refine HP.out.mono ?_); rintro e w' ⟨rfl, rfl⟩))
    | (go_at_call 40; ((with_reducible refine (HY.out _).mono ?_); rintro e w1 ⟨rfl, b⟩; have B1 := Lib.hid b; clear b))
    | (go_at_call 40; ((with_reducible refine (HM.out _).mono ?_); rintro e w2 ⟨rfl, b⟩; have B2 := Lib.hid (bt B1.out b); clear b))
    | (go_at_call 40; ((with_reducible refine (HD.out _).mono ?_); rintro e w3 ⟨rfl, b⟩; have B3 := Lib.hid (bt B2.out b); clear b)))
  go_ret2
  have hS : sy ++ ⟨#[45]⟩ ++ sm ++ ⟨#[45]⟩ ++ sd = ⟨(txt Y M D).toArray⟩ :=
    WideShapes.bytes_inj (by simp only [app_list, EY.out, EM.out, ED.out]; exact HT.out)
  exact ⟨congrArg (fun s => Ending.returned (.tuple #[.string s, .int .i64 0])) hS, B3.out⟩
end Go.Proofs.YteigcgncbkjmaaaDoor

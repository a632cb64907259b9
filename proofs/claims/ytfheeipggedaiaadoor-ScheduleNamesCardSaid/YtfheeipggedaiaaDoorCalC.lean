/- Layer 4: the program's walks: the n-th business day, by a range over days. -/
import Derived.Test.YtfheeipggedaiaaDoorCalB
import Derived.Test.YtfheeipggedaiaaDoorCalR
import Derived.Shelf.Abstract
import Derived.OwnWalkIn
import Derived.TacticsInMore
import Derived.LoopNIn
import Derived.LoopIn
import Derived.Maps.AppendAt
namespace Go.Proofs.YtfheeipggedaiaaDoor
open Go Go.RowKit Go.Shelf

attribute [local go_sem] Oper.semAt_some

/-- How many days are left, read off the memory. -/
def leftN (w : World) (B : Nat) (s : Int) : Nat := match w.cell? ⟨B, 0, none⟩ with | some (.int _ d) => if s = 1 then (100000 - d).toNat else (d + 1).toNat | _ => 0
theorem leftN_of {w : World} {B : Nat} {s d : Int} {k : Nat} (h : w.cell? ⟨B, 0, none⟩ = some (.int .i64 d)) (ha : At s k d) : leftN w B s = k := by
  unfold leftN; rw [h]; unfold At at ha; simp only; split <;> omega
theorem At.bd {s : Int} {k : Nat} {d : Int} (h : At s k d) : -1 ≤ d ∧ d ≤ 100000 ∧ -1 ≤ s ∧ s ≤ 1 := by unfold At at h; omega

theorem daysFrom_in (n : Nat) (d s : Int) (w : World) :
    CallsIn Fence.wide n Tryd.prog 69 #[.int .i64 d, .int .i64 s] w fun e w' => e = .returned (.func (.func 75) #[] #[.pointer (some ⟨w.heap.size, 0, none⟩), .pointer (some ⟨w.heap.size + 1, 0, none⟩)]) ∧
      w' = (w.alloc (.cells #[.int .i64 d] 3)).alloc (.cells #[.int .i64 s] 3) := by
  refine callsIn_of_wp Tryd.func69 rfl trivial ?_ rfl
  simp only [Tryd.ntmps69, List.size_toArray, List.length_cons, List.length_nil, Nat.reduceAdd, Nat.reduceSub, Array.replicate_succ, Array.replicate_zero, List.push_toArray, List.append_toArray, List.nil_append, List.cons_append]
  gi_wp2
  go_ret
  exact ⟨rfl, rfl⟩

set_option maxRecDepth 100000 in
set_option maxHeartbeats 1000000 in
theorem daysFrom1_in (n : Nat) (hn : 1 ≤ n) (l Bd Bs : Nat) (s : Int) (k0 : Nat) (d0 : Int) (ha0 : At s k0 d0) (hne : Bs ≠ Bd) (J Jx : List Int → World → Prop)
    (hJ : ∀ t A v, J t A → J t (A.setCell ⟨Bd, 0, none⟩ v))
    (hY : ∀ pre x A, J pre A → pre ++ [x] <+: dys s k0 d0 → YieldAt Fence.wide (n - 1) Tryd.prog l #[.int .i64 x] A fun e A' =>
      (e = .returned (.bool true) ∧ J (pre ++ [x]) A' ∧ (A'.heap[Bd]? = A.heap[Bd]? ∧ A'.heap[Bs]? = A.heap[Bs]?)) ∨ (e = .returned (.bool false) ∧ Jx (pre ++ [x]) A'))
    (W : World) (hd : W.heap[Bd]? = some (.cells #[.int .i64 d0] 3 (0, 0))) (hs : W.heap[Bs]? = some (.cells #[.int .i64 s] 3 (0, 0))) (h0 : J [] W) :
    CallsIn Fence.wide n Tryd.prog 75 #[.func (.yield l) #[] #[], .pointer (some ⟨Bd, 0, none⟩), .pointer (some ⟨Bs, 0, none⟩)] W fun e W' => (∃ v, e = .returned v) ∧
      (J (dys s k0 d0) W' ∨ ∃ pre, pre <+: dys s k0 d0 ∧ Jx pre W') := by
  refine callsIn_of_wp Tryd.func75 rfl trivial ?_ rfl
  simp only [Tryd.ntmps75, List.size_toArray, List.length_cons, List.length_nil, Nat.reduceAdd, Nat.reduceSub, Array.replicate_succ, Array.replicate_zero, List.push_toArray, List.append_toArray, List.nil_append, List.cons_append]
  have HY := Lib.hid hY
  have HJ := Lib.hid hJ
  clear hY hJ
  gi_wp2
  gi_loopw [4] (fun _ wr => ∃ (k : Nat) (d : Int) (pre : List Int), At s k d ∧ wr.heap[Bd]? = some (.cells #[.int .i64 d] 3 (0, 0)) ∧ wr.heap[Bs]? = some (.cells #[.int .i64 s] 3 (0, 0)) ∧ Hid (dys s k0 d0 = pre ++ dys s k d) ∧ J pre wr)
    (fun _ wr => leftN wr Bd s)
  case atStart => exact ⟨k0, d0, [], ha0, hd, hs, rfl, h0⟩
  case round =>
    clear hd hs h0 ha0
    obtain ⟨k, d, pre, ha, hd, hs, hpre, hJs⟩ := hrel
    have hcd : wr.cell? ⟨Bd, 0, none⟩ = some (.int .i64 d) := by simp [World.cell?, hd]
    have hcs : wr.cell? ⟨Bs, 0, none⟩ = some (.int .i64 s) := by simp [World.cell?, hs]
    have hfd : wr.frozen? ⟨Bd, 0, none⟩ = false := by simp [World.frozen?, hd]
    have HM := Lib.hid (leftN_of hcd ha)
    obtain ⟨b0, b1, b2, b3⟩ := ha.bd
    cases k with
    | zero =>
      have HD := Lib.hid (isDayC_any d false (by rw [ha.dayB]; rfl))
      have HP : Hid (dys s k0 d0 = pre) := by show _ = _; rw [hpre.out]; simp [dys]
      clear ha hpre hd hs HY HJ
      gi_wp2_with (refine ⟨trivial, ?_⟩; gi_at_call 52; refine (callsIn_wide.2 (HD.out _)).mono ?_; rintro e w' ⟨rfl, rfl⟩)
      go_end0
      exact ⟨⟨_, rfl⟩, .inl (by rw [HP.out]; exact hJs)⟩
    | succ k =>
      have HD := Lib.hid (isDayC_any d true (by rw [ha.dayB]; simp))
      have hnx := ha.next
      have hpx : pre ++ [d] <+: dys s k0 d0 := by rw [hpre.out]; exact ⟨dys s k (d + s), by simp [dys]⟩
      have HP : Hid (dys s k0 d0 = (pre ++ [d]) ++ dys s k (d + s)) := by show _ = _; rw [hpre.out]; simp [dys]
      obtain ⟨fn, tmps, assign, body, hy, hR⟩ := HY.out pre d wr hJs hpx
      have hR' := Lib.hid hR
      clear hR HY hpre
      gi_wp2_with (refine ⟨trivial, ?_⟩; gi_at_call 52; refine (callsIn_wide.2 (HD.out _)).mono ?_; rintro e w' ⟨rfl, rfl⟩)
      refine hR'.out.mono ?_
      rintro e' W3 (⟨rfl, hJ3, hk1, hk2⟩ | ⟨rfl, hJx3⟩)
      · have hd3 : W3.heap[Bd]? = some (.cells #[.int .i64 d] 3 (0, 0)) := hk1.trans hd
        have hs3 : W3.heap[Bs]? = some (.cells #[.int .i64 s] 3 (0, 0)) := hk2.trans hs
        have hcd3 : W3.cell? ⟨Bd, 0, none⟩ = some (.int .i64 d) := by simp [World.cell?, hd3]
        have hcs3 : W3.cell? ⟨Bs, 0, none⟩ = some (.int .i64 s) := by simp [World.cell?, hs3]
        have hfd3 : W3.frozen? ⟨Bd, 0, none⟩ = false := by simp [World.frozen?, hd3]
        have hd4 : (W3.setCell ⟨Bd, 0, none⟩ (.int .i64 (d + s))).heap[Bd]? = some (.cells #[.int .i64 (d + s)] 3 (0, 0)) := heap_setCell_same W3 Bd 0 _ _ _ hd3
        have hs4 : (W3.setCell ⟨Bd, 0, none⟩ (.int .i64 (d + s))).heap[Bs]? = some (.cells #[.int .i64 s] 3 (0, 0)) := (Below.heap_setCell W3 ⟨Bd, 0, none⟩ _ Bs hne).trans hs3
        have hJ4 := HJ.out _ _ (.int .i64 (d + s)) hJ3
        have HM4 := Lib.hid (leftN_of (w := W3.setCell ⟨Bd, 0, none⟩ (.int .i64 (d + s))) (B := Bd) (by unfold World.cell?; rw [hd4]; rfl) hnx)
        have HD4 := Lib.hid hd4
        have HS4 := Lib.hid hs4
        have HJ4 := Lib.hid hJ4
        clear hd hs hd3 hs3 hd4 hs4 hJ4 hJs hJ3
        gi_wp2
        go_roundw
        case rel => exact ⟨k, d + s, pre ++ [d], hnx, HD4.out, HS4.out, HP, HJ4.out⟩
        case measure => rw [HM4.out, HM.out]; omega
      · gi_wp2
        refine bodyPost_ret (results_none rfl _ _ _) rfl ?_
        exact ⟨⟨_, rfl⟩, .inr ⟨_, hpx, hJx3⟩⟩

/-- The days from d on, as a loop over them takes them. -/
theorem daysFrom_seq (n : Nat) (hn : 1 ≤ n) (Bd Bs : Nat) (s : Int) (k : Nat) (d : Int) (ha : At s k d) (hne : Bs ≠ Bd) (w : World) (hd : w.heap[Bd]? = some (.cells #[.int .i64 d] 3 (0, 0))) (hs : w.heap[Bs]? = some (.cells #[.int .i64 s] 3 (0, 0))) :
    SeqCell Fence.wide n Tryd.prog 75 #[.pointer (some ⟨Bd, 0, none⟩), .pointer (some ⟨Bs, 0, none⟩)] (fun x : Int => Value.int .i64 x) Bd (fun A A' => A'.heap[Bd]? = A.heap[Bd]? ∧ A'.heap[Bs]? = A.heap[Bs]?) (dys s k d) w := fun l J Jx W hW hJ hY h0 =>
  daysFrom1_in n hn l Bd Bs s k d ha hne J Jx hJ hY W ((hW.block Bd (lt_of_block hd)).trans hd) ((hW.block Bs (lt_of_block hs)).trans hs) h0
end Go.Proofs.YtfheeipggedaiaaDoor

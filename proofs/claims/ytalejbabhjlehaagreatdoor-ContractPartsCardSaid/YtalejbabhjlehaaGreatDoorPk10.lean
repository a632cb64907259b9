/- Joined: IntG, IntT. -/
import Derived.Test.YtalejbabhjlehaaGreatDoorPk9
import Derived.RangeFuncBox
import Derived.RangeFuncLeaves
import Derived.Shelf.Abstract
import Derived.WalkKit
import Derived.OwnWalkIn
import Derived.TacticsInMore
import Derived.LoopNIn
import Derived.LoopIn
import Derived.Maps.AppendAt
/- The walks of layer 1: parse: a range over the groups of nine digits. -/
namespace Go.Proofs.YtalejbabhjlehaaGreatDoor
open Go Go.RowKit Go.Shelf
attribute [local go_sem] Oper.semAt_some
theorem dig_at' (t : ByteArray) (ho : odB t.data.toList = true) (j : Nat) (h : j < t.size) : 48 ≤ (t[j].toNat : Int) ∧ (t[j].toNat : Int) ≤ 57 := by
  unfold odB at ho
  exact (dgB_iff _).1 (List.all_eq_true.1 ho t[j] (List.mem_of_getElem? (getElem_toList t j h)))
theorem val_step (t : ByteArray) (k : Nat) (h : k < t.size) : vl 10 (dgs (t.data.toList.take (k + 1))) = 10 * vl 10 (dgs (t.data.toList.take k)) + (t[k].toNat - 48) := by
  have hl : k < t.data.toList.length := by simpa using h
  rw [take_snoc _ k hl, dgs_concat]
  simp only [vl]
  show (t[k].toNat - 48) + _ = _
  omega
set_option maxRecDepth 100000 in
set_option maxHeartbeats 600000 in
theorem value_any (t : ByteArray) (ho : odB t.data.toList = true) (h9 : t.size ≤ 9) (w : World) :
    Calls Tryz.prog 177 #[.string t] w fun e w' => e = .returned (.int .u32 ((vl 10 (dgs t.data.toList) : Nat) : Int)) ∧ w = w' := by
  have HO := Lib.hid ho
  have HB : Hid (∀ k, k ≤ 8 → vl 10 (dgs (t.data.toList.take k)) ≤ 99999999) := by
    intro k hk
    have h1 := vl_lt 10 (dgs (t.data.toList.take k)) (dgs_lt _ (by unfold odB at *; exact List.all_eq_true.2 fun c hc => List.all_eq_true.1 ho c (List.mem_of_mem_take hc)))
    have h2 : (dgs (t.data.toList.take k)).length ≤ 8 := by rw [dgs_length]; exact Nat.le_trans (List.length_take_le _ _) hk
    have h3 : 10 ^ (dgs (t.data.toList.take k)).length ≤ 10 ^ 8 := Nat.pow_le_pow_right (by omega) h2
    have h4 : (10 : Nat) ^ 8 = 100000000 := by decide
    omega
  clear ho
  go_enter Tryz.func177, Tryz.ntmps177
  go_wp2
  go_loop [3, 7] (fun n i => ∃ k : Nat, k ≤ t.size ∧ i = .int .i64 k ∧ n = .int .u32 ((vl 10 (dgs (t.data.toList.take k)) : Nat) : Int)) (fun _ i => t.size - (intOf i).toNat)
  case atStart => exact ⟨0, by omega, rfl, by simp [dgs, vl]⟩
  case round =>
    obtain ⟨k, hk, rfl, rfl⟩ := hrel
    by_cases hlt : k < t.size
    · obtain ⟨hd1, hd2⟩ := dig_at' t HO.out k hlt
      have hle := HB.out k (by omega)
      have HS := Lib.hid (val_step t k hlt)
      have hle' : ((vl 10 (dgs (t.data.toList.take k)) : Nat) : Int) ≤ 99999999 := by omega
      clear hle HO HB
      generalize vl 10 (dgs (t.data.toList.take k)) = v at *
      go_wp2
      go_round
      case rel => exact ⟨k + 1, by omega, by go_num, int_eq (by rw [HS.out]; omega)⟩
      case measure => simp [intOf]; omega
    · obtain rfl : k = t.size := by omega
      have HF : Hid (t.data.toList.take t.size = t.data.toList) := by show _ = _; rw [List.take_of_length_le (by simp)]
      clear HO HB
      go_wp2
      go_ret
      exact ⟨ret_int (by rw [HF.out]), rfl⟩
theorem value_mid (s : ByteArray) (ho : odB s.data.toList = true) (a e : Nat) (he : e ≤ s.size) (h9 : e - a ≤ 9) (hr : e - a = 9 ∨ a = 0) (w : World) :
    Calls Tryz.prog 177 #[.string (s.extract a e)] w fun r w' => r = .returned (.int .u32 ((vl 10 (((dgs s.data.toList).drop (s.size - e)).take 9) : Nat) : Int)) ∧ w = w' := by
  have e1 := Lib.extract_data s a e
  have hl : s.data.toList.length = s.size := (Lib.size_eq s).symm
  have ho' : odB (s.extract a e).data.toList = true := by
    rw [e1]
    unfold odB at *
    exact List.all_eq_true.2 fun c hc => List.all_eq_true.1 ho c (List.mem_of_mem_drop (List.mem_of_mem_take hc))
  have hsz : (s.extract a e).size ≤ 9 := by
    rw [Lib.size_eq, e1, List.length_take, List.length_drop]; omega
  have h := value_any (s.extract a e) ho' hsz w
  rw [e1, dgs_mid s.data.toList a e (by omega) h9 hr, hl] at h
  exact h
def ngr (n : Nat) : Nat := (n + 8) / 9
set_option maxRecDepth 100000 in
set_option maxHeartbeats 1000000 in
theorem groups1_in (n : Nat) (hn : 1 ≤ n) (l Bn : Nat) (s : ByteArray) (hs : s.size ≤ 1099511627776) (ho : odB s.data.toList = true) (J Jx : List Nat → World → Prop)
    (hY : ∀ pre x W, J pre W → pre.length < ngr s.size → YieldAt Fence.wide (n - 1) Tryz.prog l #[.int .u32 (x : Nat)] W fun e W' =>
      (e = .returned (.bool true) ∧ J (pre ++ [x]) W' ∧ W'.heap[Bn]? = W.heap[Bn]?) ∨ (e = .returned (.bool false) ∧ Jx (pre ++ [x]) W'))
    (W : World) (hBn : W.cell? ⟨Bn, 0, none⟩ = some (.string s)) (h0 : J [] W) :
    CallsIn Fence.wide n Tryz.prog 176 #[.func (.yield l) #[] #[], .pointer (some ⟨Bn, 0, none⟩)] W fun e W' => (∃ v, e = .returned v) ∧
      ((∃ ys, ys = grps (dgs s.data.toList) (ngr s.size) ∧ J ys W') ∨ (∃ pre, True ∧ Jx pre W')) := by
  refine callsIn_of_wp Tryz.func176 rfl trivial ?_ rfl
  simp only [Tryz.ntmps176, List.size_toArray, List.length_cons, List.length_nil, Nat.reduceAdd, Nat.reduceSub, Array.replicate_succ, Array.replicate_zero, List.push_toArray, List.append_toArray, List.nil_append, List.cons_append]
  have HJ := Lib.hid hY
  have HO := Lib.hid ho
  clear hY ho
  gi_wp2
  gi_loopw [3] (fun p wr => ∃ (k : Nat), 9 * k < s.size + 9 ∧ p = .int .i64 ((s.size : Int) - 9 * (k : Int)) ∧ wr.cell? ⟨Bn, 0, none⟩ = some (.string s) ∧ J (grps (dgs s.data.toList) k) wr)
    (fun p _ => (intOf p).toNat)
  case atStart => exact ⟨0, by omega, int_eq (by omega), hBn, h0⟩
  case round =>
    obtain ⟨k, hk, rfl, hcell, hJs⟩ := hrel
    by_cases hlt : 9 * k < s.size
    · obtain ⟨e, he⟩ : ∃ e : Nat, s.size = 9 * k + e := ⟨s.size - 9 * k, by omega⟩
      have ee : (s.size : Int) - 9 * (k : Int) = (e : Int) := by omega
      have hkn : (grps (dgs s.data.toList) k).length < ngr s.size := by rw [grps_length]; unfold ngr; omega
      obtain ⟨fn, tmps, assign, body, hy, hR⟩ := HJ.out _ (vl 10 (((dgs s.data.toList).drop (9 * k)).take 9)) wr hJs hkn
      have hR' := Lib.hid hR
      clear hR
      rw [ee]
      have ek9 : s.size - e = 9 * k := by omega
      have hke : Hid ((s.size : Int) - 9 * ((k + 1 : Nat) : Int) = (e : Int) - 9) := by show _ = _; omega
      have hgs : Hid (grps (dgs s.data.toList) (k + 1) = grps (dgs s.data.toList) k ++ [vl 10 (((dgs s.data.toList).drop (9 * k)).take 9)]) := grps_succ _ _
      by_cases h9 : 9 ≤ e
      · obtain ⟨a, rfl⟩ : ∃ a, e = a + 9 := ⟨e - 9, by omega⟩
        have HV := Lib.hid (value_mid s HO.out a (a + 9) (by omega) (by omega) (.inl (by omega)) wr)
        rw [ek9] at HV
        have has : (a : Int) + 9 ≤ (s.size : Int) := by omega
        have has2 : (((a + 9 : Nat)) : Int) = (a : Int) + 9 := by omega
        rw [has2]
        clear he ee ek9 hk hlt hkn h9 has2
        have h0a : decide ((0 : Int) < (a : Int) + 9) = true := decide_eq_true (by omega)
        gi_wp2_with (refine ⟨trivial, ?_⟩; gi_at_call 177; refine (callsIn_wide.2 HV.out).mono ?_; rintro e w' ⟨rfl, rfl⟩)
        refine hR'.out.mono ?_
        rintro e W3 (⟨rfl, hJ3, hk3⟩ | ⟨rfl, hJx3⟩)
        · have hc3 : W3.cell? ⟨Bn, 0, none⟩ = some (.string s) := (World.cell?_of_block (w := wr) hk3).trans hcell
          gi_wp2
          go_roundw
          case rel => exact ⟨k + 1, by have := hke.out; omega, int_eq (by rw [hke.out]; omega), hc3, by rw [hgs.out]; exact hJ3⟩
          case measure => simp [intOf]; omega
        · gi_wp2
          refine bodyPost_ret (results_none rfl _ _ _) rfl ?_
          exact ⟨⟨_, rfl⟩, .inr ⟨_, trivial, hJx3⟩⟩
      · have HV := Lib.hid (value_mid s HO.out 0 e (by omega) (by omega) (.inr rfl) wr)
        rw [ek9] at HV
        have has : (e : Int) ≤ (s.size : Int) := by omega
        have h0a : (0 : Int) < (e : Int) := by omega
        have h9' : max ((e : Int) - 9) 0 = 0 := by omega
        clear he ee ek9 hk hlt hkn h9
        gi_wp2_with (refine ⟨trivial, ?_⟩; gi_at_call 177; refine (callsIn_wide.2 HV.out).mono ?_; rintro e w' ⟨rfl, rfl⟩)
        refine hR'.out.mono ?_
        rintro e' W3 (⟨rfl, hJ3, hk3⟩ | ⟨rfl, hJx3⟩)
        · have hc3 : W3.cell? ⟨Bn, 0, none⟩ = some (.string s) := (World.cell?_of_block (w := wr) hk3).trans hcell
          gi_wp2
          go_roundw
          case rel => exact ⟨k + 1, by have := hke.out; omega, int_eq (by rw [hke.out]), hc3, by rw [hgs.out]; exact hJ3⟩
          case measure => simp [intOf]; omega
        · gi_wp2
          refine bodyPost_ret (results_none rfl _ _ _) rfl ?_
          exact ⟨⟨_, rfl⟩, .inr ⟨_, trivial, hJx3⟩⟩
    · have hke : Hid (k = ngr s.size) := by show _ = _; unfold ngr; omega
      have hle : (s.size : Int) - 9 * (k : Int) ≤ 0 := by omega
      obtain ⟨z, hz⟩ : ∃ z : Int, (s.size : Int) - 9 * (k : Int) = z := ⟨_, rfl⟩
      rw [hz] at hle ⊢
      clear hz hlt hk
      gi_wp2
      go_end0
      exact ⟨⟨_, rfl⟩, .inl ⟨_, rfl, by rw [← hke.out]; exact hJs⟩⟩
set_option maxHeartbeats 1000000 in
theorem groups_in (n : Nat) (s : ByteArray) (w : World) :
    CallsIn Fence.wide n Tryz.prog 166 #[.string s] w fun e w' => e = .returned (.func (.func 176) #[] #[.pointer (some ⟨w.heap.size, 0, none⟩)]) ∧ w' = w.alloc (.cells #[.string s] 9) := by
  refine callsIn_of_wp Tryz.func166 rfl trivial ?_ rfl
  simp only [Tryz.ntmps166, List.size_toArray, List.length_cons, List.length_nil, Nat.reduceAdd, Nat.reduceSub, Array.replicate_succ, Array.replicate_zero, List.push_toArray, List.append_toArray, List.nil_append, List.cons_append]
  gi_wp2
  go_ret
  exact ⟨rfl, rfl⟩
theorem groups_stops (n : Nat) (hn : 1 ≤ n) (Bn : Nat) (s : ByteArray) (hs : s.size ≤ 1099511627776) (ho : odB s.data.toList = true) (w : World) (hBn : Bn < w.heap.size) (hc : w.cell? ⟨Bn, 0, none⟩ = some (.string s)) :
    SeqStopsK Fence.wide n Tryz.prog 176 #[.pointer (some ⟨Bn, 0, none⟩)] (fun x : Nat => #[Value.int .u32 x]) (fun W W' => W'.heap[Bn]? = W.heap[Bn]?) (fun ys => ys = grps (dgs s.data.toList) (ngr s.size)) (fun _ => True) (ngr s.size) w := fun l J Jx W hW _ _ hY h0 =>
  groups1_in n hn l Bn s hs ho J Jx hY W ((hW.cell (p := ⟨Bn, 0, none⟩) hBn).trans hc) h0
theorem row_ne {W : World} {base : Nat} {e t : TypeId} {k r : Nat} {v : Value} {xs : List Value} {cs : Array Value} {fr : Nat × Nat} (h : W.ownsRow base e 1 v k xs) (hr : W.heap[r]? = some (.cells cs t fr)) (hne : t ≠ e) : some r ≠ v.ownBlock := by
  rcases h.2 with ⟨rfl, _⟩ | ⟨g, cap, cur, rfl, _, hgb, _⟩
  · simp [Value.ownBlock]
  · intro e'
    obtain rfl : r = g := by simpa [Value.ownBlock] using e'
    rw [hr] at hgb
    injection hgb with hgb
    injection hgb with _ ht
    exact hne ht
theorem own_cap {W : World} {base : Nat} {e : TypeId} {k : Nat} {v : Value} {xs : List Nat} (h : W.ownsRow base e 1 v k (xs.map encU)) : ∃ A c, v = .slice A k c ∧ k = xs.length ∧ SlA encU W A xs ∧ k ≤ c ∧ c ≤ maxLen := by
  obtain ⟨A, c, h1, h2, h3⟩ := SlA.of_own h
  refine ⟨A, c, h1, h2, h3, ?_⟩
  rcases h.2 with ⟨hv, hn⟩ | ⟨g, cap, cur, hv, _, _, hnc, hcm, _⟩
  · rw [h1] at hv; injection hv with _ _ hc; omega
  · rw [h1] at hv
    injection hv with _ _ hc
    rw [hc]; exact ⟨hnc, hcm⟩
theorem block_own {β : Type} (r : Nat) (o : Obj) (ho : o.isCells = true) (B : Nat) : OwnFrom B (fun (_ : β) W => W.heap[r]? = some o) := fun s X Y row h hg hr => by
  have hlt := lt_of_block h
  refine (hg.block r hlt (fun e => ?_)).trans h
  obtain ⟨_, o', ho', hc⟩ := hr r e.symm
  rw [h] at ho'
  injection ho' with ho'
  rw [← ho', ho] at hc
  cases hc
theorem cut_minus (s : ByteArray) (b : List UInt8) (hb : bod s.data.toList = b) (g : Bool) (hg : ngB s.data.toList = g) (w : World) :
    Calls Tryz.prog 165 #[.string s, .string ⟨#[45]⟩] w fun e w' => e = .returned (.tuple #[.string ⟨b.toArray⟩, .bool g]) ∧ w' = w := by
  have h := Tryz.strings_CutPrefix s ⟨#[45]⟩ w
  have e1 : Lib.trimPrefix s.data.toList (⟨#[45]⟩ : ByteArray).data.toList = b := hb
  have e2 : Lib.hasPrefix s.data.toList (⟨#[45]⟩ : ByteArray).data.toList = g := by
    rw [← hg]
    match s.data.toList with
    | [] => rfl
    | c :: r =>
      show (45 == c && [].isPrefixOf r) = (some c == some 45)
      by_cases hc : c = 45
      · subst hc; rfl
      · have h1 : (45 == c) = false := by rw [beq_eq_false_iff_ne]; exact fun e => hc e.symm
        have h2 : (some c == some (45 : UInt8)) = false := by rw [beq_eq_false_iff_ne]; exact fun e => hc (by injection e)
        rw [h1, h2]; rfl
  rw [e1, e2] at h
  exact h
set_option maxRecDepth 100000 in
set_option maxHeartbeats 2000000 in
theorem parse_in (s : ByteArray) (b : List UInt8) (hb : bod s.data.toList = b) (g : Bool) (hg : ngB s.data.toList = g) (ho : odB b = true) (hlen : b.length ≤ 1000) (w : World) :
    CallsIn Fence.wide 5 Tryz.prog 156 #[.string s] w fun e w' => ∃ A c zs, e = .returned (.agg #[.bool g, .slice A zs.length c]) ∧ SlA encU w' A zs ∧ Nrm zs ∧ vl 1000000000 zs = vl 10 (dgs b) ∧ zs.length ≤ 112 ∧ zs.length ≤ c ∧ c ≤ maxLen ∧ Below w.heap.size w w' := by
  obtain ⟨i0, hi, hz0, hz1, hz2⟩ := info_parts Tryz.infoU
  have HC := Lib.hid (cut_minus s b hb g hg)
  have HO := Lib.hid ho
  have hbs : (⟨b.toArray⟩ : ByteArray).size = b.length := rfl
  clear hb hg ho
  refine callsIn_of_wp_marks Tryz.func156 rfl trivial ?_ rfl
  simp only [Tryz.ntmps156, List.size_toArray, List.length_cons, List.length_nil, Nat.reduceAdd, Nat.reduceSub, Array.replicate_succ, Array.replicate_zero, List.push_toArray, List.append_toArray, List.nil_append, List.cons_append]
  gi_wp2_with (first
    | (refine ⟨trivial, ?_⟩; gi_at_call 165; refine (callsIn_wide.2 (HC.out _)).mono ?_; rintro e w' ⟨rfl, rfl⟩)
    | (gi_at_make; refine wpListIn_make_own _ rfl _ _ 157 rfl (w.heap.size + 1) 117 i0 (.int .u32 0) 1 Tryz.underlying157 hi hz0 hz1 _ _ _ (b.length / 9 + 1) rfl rfl (by omega) (by rw [hz2]; omega) (by unfold maxLen; omega) (by simp) ?_; intro w1 hown hg1)
    | (refine ⟨trivial, ?_⟩; gi_at_call 166; refine (groups_in _ _ _).mono ?_; rintro e w' ⟨rfl, rfl⟩))
  have hsz1 : w.heap.size + 1 ≤ w1.heap.size := by have := hg1.size; simpa using this
  have hres1 : w1.heap[w.heap.size]? = some (.cells #[.bool false, .slice none 0 0] 159 (0, 0)) := (hg1.block w.heap.size (by simp) (by simp)).trans (heap_alloc_new w _)
  have hb1 : Below w.heap.size w w1 := (((Below.refl _ w).alloc (Nat.le_refl _) _)).grown hg1 (by simp) (fun k e => by cases e)
  have hown1 : w1.ownsRow (w.heap.size + 1) 117 1 (.slice (some ⟨w.heap.size + 1, 0, none⟩) 0 (b.length / 9 + 1)) 0 [] := by simpa using hown
  obtain ⟨WL, hWL⟩ : ∃ WL, (w1.alloc (.cells #[.slice (some ⟨w.heap.size + 1, 0, none⟩) 0 (b.length / 9 + 1)] 157)).alloc (.cells #[.string ⟨b.toArray⟩] 9) = WL := ⟨_, rfl⟩
  have bO : Boxed WL w1.heap.size 157 (.slice (some ⟨w.heap.size + 1, 0, none⟩) 0 (b.length / 9 + 1)) := by rw [← hWL]; exact (Boxed.new w1 _ _).alloc _
  have bN : Boxed WL (w1.heap.size + 1) 9 (.string ⟨b.toArray⟩) := by
    rw [← hWL]; have := Boxed.new (w1.alloc (.cells #[.slice (some ⟨w.heap.size + 1, 0, none⟩) 0 (b.length / 9 + 1)] 157)) 9 (.string ⟨b.toArray⟩)
    rwa [World.size_alloc] at this
  have hszL : WL.heap.size = w1.heap.size + 2 := by rw [← hWL]; simp
  have hresL : WL.heap[w.heap.size]? = some (.cells #[.bool false, .slice none 0 0] 159 (0, 0)) := by
    rw [← hWL]; exact (Below.heap_alloc _ _ _ (by simp; omega)).trans ((Below.heap_alloc _ _ _ (by omega)).trans hres1)
  have hownL : WL.ownsRow (w.heap.size + 1) 117 1 (.slice (some ⟨w.heap.size + 1, 0, none⟩) 0 (b.length / 9 + 1)) 0 [] := by rw [← hWL]; exact (hown1.alloc _).alloc _
  have hbL : Below w.heap.size w WL := by rw [← hWL]; exact (hb1.alloc hb1.size _).alloc (by have := hb1.size; simp; omega) _
  rw [hWL]
  clear hWL hown hown1 hres1
  refine wpIn_rangeFunc_ownG rfl (by omega) (gf := 176) (lb := #[.pointer (some ⟨w1.heap.size + 1, 0, none⟩)]) rfl trivial (enters_of Tryz.func176 (by kernel_rfl) rfl)
    (groups_stops (5 - 1) (by omega) (w1.heap.size + 1) ⟨b.toArray⟩ (by show b.length ≤ _; omega) HO.out WL (by omega) bN.cell) (fun h k => k.trans h)
    (fun W l o o' hl _ _ _ => World.putObj_heap_other (by omega)) (Below.refl _ _) (fun _ => rfl)
    (fun pre W => (∃ v, Boxed W w1.heap.size 157 v ∧ W.ownsRow (w.heap.size + 1) 117 1 v pre.length (pre.map encU) ∧ True) ∧ (W.heap[w1.heap.size + 1]? = some (.cells #[.string ⟨b.toArray⟩] 9 (0, 0)) ∧ (W.heap[w.heap.size]? = some (.cells #[.bool false, .slice none 0 0] 159 (0, 0)) ∧ Below w.heap.size w W)))
    (fun _ _ _ => False)
    (OwnFrom.and (Own.from (holdsRow_own (w.heap.size + 1) w1.heap.size 157 117 1 (fun pre : List Nat => pre.length) (fun pre => pre.map encU) (fun _ _ => True)) _) (OwnFrom.and (block_own _ _ rfl _) (OwnFrom.and (block_own _ _ rfl _) (ownFrom_below (Nat.le_refl _) (by omega)))))
    (fun _ _ _ _ _ hs _ _ => hs)
    ⟨⟨_, bO, hownL, trivial⟩, bN, hresL, hbL⟩
    (fun x => { tmps := #[.string s, undef, .pointer (some ⟨w.heap.size, 0, none⟩), .string ⟨b.toArray⟩, .bool g, .pointer (some ⟨w1.heap.size, 0, none⟩), .int .u32 x, .tuple #[.string ⟨b.toArray⟩, .bool g], .string s, .tuple #[.string ⟨b.toArray⟩, .bool g], .string ⟨b.toArray⟩, .bool g, .string ⟨b.toArray⟩, .int .i64 b.length, .int .i64 ((b.length : Int) / 9), .int .i64 ((b.length : Int) / 9 + 1), .slice (some ⟨w.heap.size + 1, 0, none⟩) 0 (b.length / 9 + 1), .string ⟨b.toArray⟩, .func (.func 176) #[] #[.pointer (some ⟨w1.heap.size + 1, 0, none⟩)], .int .u32 x, undef, undef, undef, undef, undef, undef, undef, undef], defers := [] }) ?assign ?body ?done ?stop
  case assign =>
    intro l x W K hK
    gi_wp2
    exact hK
  case body =>
    rintro l pre x W ⟨⟨v, hv, hrow, _⟩, hN, hres, hB⟩ hlt
    have hc := hv.cell
    have hpl : pre.length ≤ 200 := by have : ngr (⟨b.toArray⟩ : ByteArray).size ≤ 200 := by unfold ngr; rw [hbs]; omega
                                      omega
    have hszW := hB.size
    have hszW1 := hv.lt
    gi_wp2_with (gi_at_builtin; refine wpListIn_append_own _ rfl _ _ 157 rfl (w.heap.size + 1) 117 i0 (.int .u32 0) 1 4 Tryz.underlying157 hi hz0 hz1 hz2 rfl (by decide) _ _ _ rfl (hrow.alloc _) ⟨W.heap.size, 0, none⟩ 1 1 [.int .u32 x] rfl rfl (cell_one_new _ _ _) (by simp [Value.oneCell']) (by unfold maxLen; omega) (by omega) (by simp; omega) ?_; intro v' w2 hown' hgrow _; obtain ⟨g', cap', rfl⟩ := ownsRow_succ hown'; obtain ⟨hv1, hv2, hr2, hk2, hb2⟩ := hv.appended (by decide) hrow (by omega) (by omega) hown' hgrow; have hc1 := hv1.cell; have hf1 := hv1.frozen)
    have hN2 := (hgrow.block (w1.heap.size + 1) (by have := lt_of_block hN; simp; omega) (row_ne hrow hN (by decide))).trans ((Below.heap_alloc _ _ _ (lt_of_block hN)).trans hN)
    have hR2 := (hgrow.block w.heap.size (by have := lt_of_block hres; simp; omega) (row_ne hrow hres (by decide))).trans ((Below.heap_alloc _ _ _ (lt_of_block hres)).trans hres)
    have hN3 := (Below.heap_setCell w2 ⟨w1.heap.size, 0, none⟩ (.slice (some ⟨g', 0, none⟩) (pre.length + 1) cap') (w1.heap.size + 1) (by simp)).trans hN2
    have hR3 := (Below.heap_setCell w2 ⟨w1.heap.size, 0, none⟩ (.slice (some ⟨g', 0, none⟩) (pre.length + 1) cap') w.heap.size (by show w.heap.size ≠ w1.heap.size; omega)).trans hR2
    exact ⟨hk2.from _, hN3.trans hN.symm, ⟨_, hv2, by simpa [encU] using hr2, trivial⟩, hN3, hR3, hB.trans (hb2.mono (by omega))⟩
  case done =>
    rintro D ys W hD rfl ⟨⟨v, hv, hrow, _⟩, hN, hres, hB⟩ hK
    have hc := hv.cell
    obtain ⟨A, c, rfl, hn, hS, hkc, hcm⟩ := own_cap hrow
    have hzlen : (grps (dgs b) (ngr b.length)).length ≤ 112 := by rw [grps_length]; unfold ngr; omega
    have hzval : vl 1000000000 (grps (dgs b) (ngr b.length)) = vl 10 (dgs b) := grps_all _ _ (by rw [dgs_length]; unfold ngr; omega)
    have hzlt := grps_lt (dgs b) (ngr b.length) (dgs_lt b HO.out)
    have ez : grps (dgs (⟨b.toArray⟩ : ByteArray).data.toList) (ngr (⟨b.toArray⟩ : ByteArray).size) = grps (dgs b) (ngr b.length) := rfl
    rw [ez] at hS hkc hc hrow
    clear hv hn
    generalize grps (dgs b) (ngr b.length) = zs at hS hkc hc hzlen hzval hzlt hrow
    have HT := Lib.hid (trim_any A c zs W hS hkc hcm)
    have HZ1 := Lib.hid hzval
    have HZ2 := Lib.hid hzlt
    have hr0 : W.cell? ⟨w.heap.size, 0, none⟩ = some (.bool false) := by simp [World.cell?, hres]
    have hr1 : W.cell? ⟨w.heap.size, 1, none⟩ = some (.slice none 0 0) := by simp [World.cell?, hres]
    have hrf0 : W.frozen? ⟨w.heap.size, 0, none⟩ = false := by simp [World.frozen?, hres]
    have hrf1 : W.frozen? ⟨w.heap.size, 1, none⟩ = false := by simp [World.frozen?, hres]
    have hKne : D ≠ w.heap.size := by rintro rfl; rw [hK] at hres; cases hres
    have HKK := Lib.hid hK
    have HRES := Lib.hid hres
    have HBB := Lib.hid hB
    have HROW : Hid (W.ownsRow (w.heap.size + 1) 117 1 (.slice A zs.length c) zs.length (zs.map encU)) := hrow
    clear ez hrow hN hzval hzlt hK hres hB hbs
    gi_wp2_with (refine ⟨trivial, ?_⟩; gi_at_call 167; refine (callsIn_wide.2 HT.out).mono ?_; rintro e w' ⟨ys, rfl, ht, rfl⟩; have HTr := Lib.hid ht; clear ht)
    obtain ⟨W2, hW2⟩ : ∃ W2, (W.setCell ⟨w.heap.size, 0, none⟩ (.bool g)).setCell ⟨w.heap.size, 1, none⟩ (.slice A ys.length c) = W2 := ⟨_, rfl⟩
    rw [hW2]
    have hb3 : Below w.heap.size w W2 := by rw [← hW2]; exact (HBB.out.setCell (p := ⟨w.heap.size, 0, none⟩) (Nat.le_refl _) _).setCell (p := ⟨w.heap.size, 1, none⟩) (Nat.le_refl _) _
    have hK2 : W2.heap[D]? = some (.deferred (some [])) := by
      rw [← hW2]
      exact (Below.heap_setCell _ ⟨w.heap.size, 1, none⟩ _ D hKne).trans ((Below.heap_setCell _ ⟨w.heap.size, 0, none⟩ _ D hKne).trans HKK.out)
    have hres2 : W2.heap[w.heap.size]? = some (.cells #[.bool g, .slice A ys.length c] 159 (0, 0)) := by
      rw [← hW2]
      have h1 := heap_setCell_same W w.heap.size 0 _ _ (.bool g) HRES.out
      have h2 := heap_setCell_same _ w.heap.size 1 _ _ (.slice A ys.length c) h1
      exact h2
    obtain ⟨W3, hW3⟩ : ∃ W3, W2.putObj D (.deferred none) = W3 := ⟨_, rfl⟩
    have hg3 : W2.grownBy W3 (some D) := by rw [← hW3]; exact grownBy_putObj' _ _ _
    have hres3 : W3.heap[w.heap.size]? = some (.cells #[.bool g, .slice A ys.length c] 159 (0, 0)) := (hg3.block _ (lt_of_block hres2) (by simpa using fun e => hKne e.symm)).trans hres2
    have hb4 : Below w.heap.size w W3 := hb3.grown hg3 hb3.size (fun k e => by cases e; have := HBB.out.size; omega)
    have hrun := run_takeDeferred (P := Tryz.prog) hK2
    refine ⟨by simp, .inl ⟨_, _, rfl, hrun, ?_⟩⟩
    rw [hW3]
    have hrow2 : W2.ownsRow (w.heap.size + 1) 117 1 (.slice A zs.length c) zs.length (zs.map encU) := by
      rw [← hW2]
      exact ownsRow_setCell_below (ownsRow_setCell_below HROW.out (a := ⟨w.heap.size, 0, none⟩) (by show w.heap.size < _; omega) _) (a := ⟨w.heap.size, 1, none⟩) (by show w.heap.size < _; omega) _
    have hrow3 : W3.ownsRow (w.heap.size + 1) 117 1 (.slice A zs.length c) zs.length (zs.map encU) := by
      rw [← hW3]; exact ownsRow_putObj hrow2 _ hK2 rfl
    obtain ⟨A', c', hv', _, hS3⟩ := SlA.of_own hrow3
    obtain ⟨rfl, rfl⟩ : A = A' ∧ c = c' := by injection hv' with h1 _ h3; exact ⟨h1, h3⟩
    refine ⟨_, results_cell_row rfl _ W3 w.heap.size 159 #[.bool g, .slice A ys.length c] (0, 0) _ rfl hres3 Tryz.underlying159 (by kernel_rfl) (by kernel_rfl), A, c, ys, rfl, hS3.trimmed HTr.out, Nrm.of (fun t => ?_) HTr.out, by rw [HTr.out.2.1, HZ1.out], Nat.le_trans HTr.out.len hzlen, Nat.le_trans HTr.out.len hkc, hcm, hb4⟩
    exact getD_lt 1000000000 zs HZ2.out (by omega) t
  case stop =>
    rintro D c pre W _ _ h _
    exact h.elim
theorem parse_any (s : ByteArray) (h : chk s.data.toList = 0) (w : World) :
    Calls Tryz.prog 156 #[.string s] w fun e w' => ∃ A c zs, e = .returned (.agg #[.bool (ngB s.data.toList), .slice A zs.length c]) ∧ SlA encU w' A zs ∧ Nrm zs ∧ num s.data.toList = sgn (ngB s.data.toList) (vl 1000000000 zs) ∧ zs.length ≤ 112 ∧ zs.length ≤ c ∧ c ≤ maxLen ∧ Below w.heap.size w w' := by
  have ho : odB (bod s.data.toList) = true := by
    rcases can_cases _ (by rw [h]; decide : ¬ chk s.data.toList = 12) with e | ⟨_, ho⟩
    · rw [e]; decide
    · exact ho
  refine (callsIn_wide.1 (parse_in s _ rfl _ rfl ho (bod_len_of_chk h).1 w)).mono ?_
  rintro e w' ⟨A, c, zs, h1, h2, h3, h4, h5⟩
  exact ⟨A, c, zs, h1, h2, h3, by rw [h4]; rfl, h5⟩
end Go.Proofs.YtalejbabhjlehaaGreatDoor
/- The walks of layer 1: texts of numbers. -/
namespace Go.Proofs.YtalejbabhjlehaaGreatDoor
open Go Go.RowKit
structure VarT (w : World) : Prop where
  sz : 5 < w.heap.size
  tab : Lib.TabIs Tryz.prog w "internal/strconv.uint64pow10" .u64 Lib.pow10Tab
theorem VarT.below {w w' : World} (h : VarT w) (hb : Below w.heap.size w w') : VarT w' :=
  { sz := Nat.lt_of_lt_of_le h.sz hb.size
    tab := var?_below hb gTab (by have := h.sz; omega) h.tab }
theorem Tryz.info5'' : (Tryz.prog.info? 5).map (fun i => (i.zero, i.size, i.bytes)) = some (some (.int .u8 0), 1, 1) := by kernel_rfl
theorem appendUint_any (B n u : Nat) (hu : u < 18446744073709551616) (sv : Value) (l : List UInt8) (w : World) (hv : VarT w) (hown : w.ownsRow B 5 1 sv n (Lib.byteCells l)) (hBw : B ≤ w.heap.size) (hlim : n + 20 ≤ 140737488355328) :
    Calls Tryz.prog 171 #[sv, .int .u64 u, .int .i64 10] w fun e w' => ∃ v', e = .returned v' ∧ w'.ownsRow B 5 1 v' (n + (Lib.decDigits u).length) (Lib.byteCells (l ++ Lib.decDigits u)) ∧ Below B w w' := by
  have eb : Lib.byteCells l ++ Lib.byteCells (Lib.decDigits u) = Lib.byteCells (l ++ Lib.decDigits u) := by simp [Lib.byteCells]
  have HI : Hid (Calls Tryz.prog 182 #[sv, .int .u64 u, .int .i64 10] w fun e w' => ∃ v', e = .returned v' ∧ w'.ownsRow B 5 1 v' (n + (Lib.decDigits u).length) (Lib.byteCells (l ++ Lib.decDigits u)) ∧ Below B w w') := by
    show Calls _ _ _ _ _
    by_cases h : u < 100
    · refine (Tryz.internal_strconv_AppendUint_10_small B n u h sv _ w hown hBw hlim).mono ?_
      rintro e w' ⟨v', h1, h2, h3, _⟩
      exact ⟨v', h1, by rw [← eb]; exact h2, h3⟩
    · refine (Tryz.internal_strconv_AppendUint_10_big B n u (by omega) hu sv _ w hown hBw hlim hv.tab).mono ?_
      rintro e w' ⟨v', h1, h2, h3, _⟩
      exact ⟨v', h1, by rw [← eb]; exact h2, h3⟩
  clear hv hown eb hu
  go_enter Tryz.func171, Tryz.ntmps171
  go_wp2_with (go_at_call 182; refine HI.out.mono ?_; rintro e w' ⟨v', rfl, h2, h3⟩)
  go_ret
  exact ⟨_, rfl, h2, h3⟩
def unitK (k : Nat) : Nat := if k < 9 then 10 ^ (8 - k) else 0
theorem unitK_next : ∀ k : Fin 9, unitK (k.val + 1) = unitK k.val / 10 ∧ 0 < unitK k.val ∧ unitK k.val ≤ 100000000 ∧ unitK k.val = 10 ^ (9 - 1 - k.val) := by decide
set_option maxRecDepth 100000 in
set_option maxHeartbeats 600000 in
theorem appendGroup_any (B n g : Nat) (hg : g < 1000000000) (sv : Value) (l : List UInt8) (w : World) (hown : w.ownsRow B 5 1 sv n (Lib.byteCells l)) (hBw : B ≤ w.heap.size) (hlim : n + 20 ≤ 140737488355328) :
    Calls Tryz.prog 172 #[sv, .int .u32 g] w fun e w' => ∃ v', e = .returned v' ∧ w'.ownsRow B 5 1 v' (n + 9) (Lib.byteCells (l ++ digs 9 g)) ∧ Below B w w' := by
  obtain ⟨i1, hi', hz0', hz1', hz2'⟩ := info_parts Tryz.info5''
  have hg' : (g : Int) ≤ 999999999 := by omega
  have HG := Lib.hid hg
  clear hg
  go_enter Tryz.func172, Tryz.ntmps172
  go_wp2
  go_loopw [0, 5] (fun b u wr => ∃ (k : Nat) (l' : List UInt8), k ≤ 9 ∧ u = .int .u32 ((unitK k : Nat) : Int) ∧ wr.ownsRow B 5 1 b (n + k) (Lib.byteCells l') ∧ Hid (l' = l ++ (digs 9 g).take k) ∧ Below B w wr) (fun _ u _ => (intOf u).toNat)
  case atStart => exact ⟨0, l, by omega, rfl, hown, by show _ = _; simp, Below.refl _ _⟩
  case round =>
    clear hown
    obtain ⟨k, l', hk, rfl, hown, hl, hbel⟩ := hrel
    by_cases h9 : k < 9
    · obtain ⟨u1, u2, u3, u4⟩ := unitK_next ⟨k, h9⟩
      simp only at u1 u2 u3 u4
      have hsz := hbel.size
      have HS : Hid (l' ++ [dch (g / unitK k % 10)] = l ++ (digs 9 g).take (k + 1)) := by
        show _ = _
        rw [digs_take 9 g k h9, hl.out, u4, List.append_assoc]
      have HU := Lib.hid u1
      clear u1 u4 hl
      generalize unitK k = u at *
      obtain ⟨d, hd⟩ : ∃ d, g / u = d := ⟨_, rfl⟩
      have hdi : (g : Int) / (u : Int) = (d : Int) := by rw [← hd, Int.natCast_ediv]
      have hdle : (d : Int) ≤ 999999999 := by
        have : g / u ≤ g := Nat.div_le_self _ _
        omega
      rw [hd] at HS
      have hu1 : 1 ≤ (u : Int) := by omega
      have hu2 : (u : Int) ≤ 100000000 := by omega
      have hund : ((u : Int) == 0) = false := by rw [beq_eq_false_iff_ne]; omega
      have HD := Lib.hid hdi
      clear hd u2 u3 hdi
      go_wp2_with (at_builtin; refine wpList_app1 hown _ rfl _ _ 153 rfl i1 (.int .u8 0) 1 Tryz.underlying153 hi' hz0' hz1' hz2' rfl rfl rfl rfl (by unfold maxLen; omega) (by omega) (by omega) ?_; intro v' w' hown' hb')
      rw [HD.out] at hown'
      go_roundw
      case rel => exact ⟨k + 1, l' ++ [dch (d % 10)], by omega, int_eq (by rw [HU.out]; omega), own_byte hown' (by omega) (by omega), HS, hbel.trans hb'⟩
      case measure => simp [intOf]; omega
    · obtain rfl : k = 9 := by omega
      have e : (digs 9 g).take 9 = digs 9 g := by rw [List.take_of_length_le (by rw [digs_length]; omega)]
      have HL := hl.out
      rw [e] at HL
      have HL := Lib.hid HL
      have hu : unitK 9 = 0 := rfl
      rw [hu]
      clear e hl hu
      go_wp2
      go_ret
      exact ⟨_, rfl, by rw [← HL.out]; exact hown, hbel⟩
def TgInv (m : Bool) (zs : List Nat) (q : Nat) (l : List UInt8) (j : Nat) : Prop := l = (if m then [45] else []) ++ Lib.decDigits q ++ gtail (zs.drop j)
theorem TgInv.start (m : Bool) (zs : List Nat) (q : Nat) : TgInv m zs q ((if m then [45] else []) ++ Lib.decDigits q) zs.length := by
  unfold TgInv; rw [List.drop_of_length_le (Nat.le_refl _)]; simp [gtail]
theorem TgInv.step {m : Bool} {zs : List Nat} {q : Nat} {l : List UInt8} {j : Nat} (h : TgInv m zs q l (j + 1)) (hj : j < zs.length) : TgInv m zs q (l ++ digs 9 zs[j]) j := by
  unfold TgInv at *
  rw [List.drop_eq_getElem_cons hj, h, gtail, List.append_assoc, List.append_assoc]
theorem TgInv.len {m : Bool} {zs : List Nat} {q : Nat} {l : List UInt8} {j : Nat} (h : TgInv m zs q l j) (hq : q < 1000000000) : l.length ≤ 9 * zs.length + 20 := by
  unfold TgInv at h
  rw [h, List.length_append, List.length_append, gtail_length, List.length_drop]
  have h1 : (Lib.decDigits q).length ≤ 10 := by
    rcases Nat.eq_zero_or_pos q with e | e
    · rw [e, Lib.decDigits_one (by omega)]; simp
    · exact dec_len_le q 10 (by have : (10 : Nat) ^ 10 = 10000000000 := by decide
                                omega) e
  have h2 : (if m then ([45] : List UInt8) else []).length ≤ 1 := by cases m <;> simp
  omega
theorem TgInv.last {m : Bool} {zs : List Nat} {q : Nat} {l : List UInt8} (h : TgInv m zs q l 0) (hz : ∀ d ∈ zs, d < 1000000000) (hq : 0 < q) : l = Lib.itoa (sgn m (vl 1000000000 (zs ++ [q]))) := by
  have hv : 0 < vl 1000000000 (zs ++ [q]) := by
    rw [vl_snoc]
    have : 0 < 1000000000 ^ zs.length * q := Nat.mul_pos (Nat.pow_pos (by omega)) hq
    omega
  unfold TgInv at h
  rw [h, itoa_sgn m _ hv, dec_zs zs q hz hq, List.drop_zero, List.append_assoc]
theorem text_zero (m : Bool) (A : Option Addr) (c : Nat) (w : World) :
    Calls Tryz.prog 158 #[.agg #[.bool m, .slice A 0 c]] w fun e w' => e = .returned (.string ⟨(Lib.itoa (sgn m 0)).toArray⟩) ∧ Below w.heap.size w w' := by
  have HZ := Lib.hid (itoa_sgn_zero m)
  go_enter Tryz.func158, Tryz.ntmps158
  go_wp2
  go_ret
  exact ⟨ret_str HZ.out.symm, (Below.refl _ _).alloc (Nat.le_refl _) _⟩
theorem f1_of {w w0 : World} {m : Bool} {z : Value} {t : TypeId} (h : Below (w.heap.size + 1) (w.alloc (.cells #[.bool m, z] t)) w0) : w0.cell? ⟨w.heap.size, 1, none⟩ = some z := by
  refine (h.cell (p := ⟨w.heap.size, 1, none⟩) (by show w.heap.size < _; omega)).trans ?_
  rw [World.cell?_alloc_at _ _ _ _ rfl]; rfl
theorem f2_of {w w0 : World} {b k : Nat} {v : Value} {ob : Obj} (hb : b < w.heap.size) (hc : w.cell? ⟨b, k, none⟩ = some v) (h : Below (w.heap.size + 1) (w.alloc ob) w0) : w0.cell? ⟨b, k, none⟩ = some v :=
  (h.cell (p := ⟨b, k, none⟩) (by show b < _; omega)).trans ((World.cell?_alloc_lt w _ ⟨b, k, none⟩ hb).trans hc)
set_option maxRecDepth 100000 in
set_option maxHeartbeats 800000 in
theorem text_pos (m : Bool) (A : Option Addr) (c : Nat) (zs : List Nat) (q : Nat) (w : World) (hA : SlA encU w A (zs ++ [q])) (hz : ∀ d ∈ zs ++ [q], d < 1000000000) (hq : 0 < q) (hlen : zs.length ≤ 1048576) (hv : VarT w) :
    Calls Tryz.prog 158 #[.agg #[.bool m, .slice A (zs.length + 1) c]] w fun e w' => e = .returned (.string ⟨(Lib.itoa (sgn m (vl 1000000000 (zs ++ [q])))).toArray⟩) ∧ Below w.heap.size w w' := by
  obtain ⟨i1, hi', hz0', hz1', hz2'⟩ := info_parts Tryz.info5''
  have hq9 : (q : Int) ≤ 999999999 := by have := hz q (by simp); omega
  have hq0 : 0 ≤ (q : Int) := by omega
  obtain ⟨b, o, rfl, hb, hcells⟩ := hA.all (by simp)
  have hcq := hcells zs.length (by simp)
  have eq1 : (zs ++ [q])[zs.length]'(by simp) = q := by simp
  rw [eq1] at hcq
  unfold encU at hcq
  have HC : Hid (∀ (j : Nat) (hj : j < zs.length), w.cell? ⟨b, o + j, none⟩ = some (.int .u32 ((zs[j] : Nat) : Int))) := by
    intro j hj
    have := hcells j (by simp; omega)
    rwa [List.getElem_append_left hj] at this
  have HZ : Hid (∀ (j : Nat) (hj : j < zs.length), zs[j] < 1000000000) := fun j hj => hz _ (by simp [List.getElem_mem hj])
  have HL := Lib.hid (fun l (h : TgInv m zs q l 0) => h.last (fun d hd => hz d (by simp [hd])) hq)
  have HS := Lib.hid (TgInv.start m zs q)
  have HLEN := Lib.hid (fun l j (h : TgInv m zs q l j) => h.len (by omega))
  obtain ⟨R, hR⟩ : ∃ R, Lib.itoa (sgn m (vl 1000000000 (zs ++ [q]))) = R := ⟨_, rfl⟩
  rw [hR] at HL ⊢
  have HV0 := Lib.hid hv
  have hqn : q < 18446744073709551616 := by omega
  have HQ := Lib.hid hqn
  clear hcells hz hR hA eq1 hv hq hqn
  have hne : ((zs.length : Int) + 1 == 0) = false := by rw [beq_eq_false_iff_ne]; omega
  have hal : ∀ ob, Below w.heap.size w (w.alloc ob) := fun ob => (Below.refl _ w).alloc (Nat.le_refl _) ob
  have HV1 : Hid (∀ ob, VarT (w.alloc ob)) := fun ob => HV0.out.below (hal ob)
  clear hal HV0
  cases m
  · go_enter Tryz.func158, Tryz.ntmps158
    go_wp2_with fail
    refine (appendUint_any (w.heap.size + 1) 0 q HQ.out _ [] _ (HV1.out _) (World.ownsRow_nil _ _ _ _) (by simp) (by omega)).mono ?_
    rintro e w2 ⟨v2, rfl, hown2, hb2⟩
    have HB2 : Hid (Below (w.alloc (.cells #[.bool false, .slice (some ⟨b, o, none⟩) (zs.length + 1) c] 159)).heap.size (w.alloc (.cells #[.bool false, .slice (some ⟨b, o, none⟩) (zs.length + 1) c] 159)) w2) := by
      show Below _ _ _
      rw [World.size_alloc]; exact hb2
    clear hb2
    obtain ⟨bc, bf⟩ := bcell HB2.out
    have c0 := bc w.heap.size 0 (by simp)
    have c1 := bc w.heap.size 1 (by simp)
    have hb0 : w2.cell? ⟨w.heap.size, 0, none⟩ = some (.bool false) := by rw [c0, World.cell?_alloc_at _ _ _ _ rfl]; rfl
    have hb1 : w2.cell? ⟨w.heap.size, 1, none⟩ = some (.slice (some ⟨b, o, none⟩) (zs.length + 1) c) := by rw [c1, World.cell?_alloc_at _ _ _ _ rfl]; rfl
    have HOWN := Lib.hid hown2
    clear bc bf c0 c1 hown2 hb0
    go_wp2
    go_loopw [3, 5] (fun out i wr => ∃ (j n : Nat) (l : List UInt8), j ≤ zs.length ∧ i = .int .i64 ((j : Int) - 1) ∧ wr.ownsRow (w.heap.size + 1) 5 1 out n (Lib.byteCells l) ∧ Hid (TgInv false zs q l j) ∧ Below (w.heap.size + 1) w2 wr) (fun _ i _ => (intOf i + 1).toNat)
    case atStart => exact ⟨zs.length, _, _, Nat.le_refl _, rfl, HOWN.out, HS, Below.refl _ _⟩
    case round =>
      obtain ⟨j, n, l, hj, rfl, hown, hinv, hbel⟩ := hrel
      cases j with
      | zero =>
        have HX := Lib.hid (HL.out l hinv.out)
        have hcv := conv_own (P := Tryz.prog) hown 153 120 Tryz.underlying153 Tryz.underlying5 Tryz.underlying120
        have HBF := Lib.hid (bt ((Below.refl _ w).alloc (Nat.le_refl _) (.cells #[.bool false, .slice (some ⟨b, o, none⟩) (zs.length + 1) c] 159)) ((HB2.out.trans (hbel.mono (by simp)))))
        clear hinv HL HS HC HZ HLEN hown
        go_wp2
        go_ret
        exact ⟨ret_str HX.out, HBF.out⟩
      | succ j =>
        have ej : ((j + 1 : Nat) : Int) - 1 = (j : Int) := by omega
        rw [ej]
        clear ej
        have hjl : j < zs.length := hj
        have hz9 := HZ.out j hjl
        have hb1' : wr.cell? ⟨w.heap.size, 1, none⟩ = some (.slice (some ⟨b, o, none⟩) (zs.length + 1) c) := (hbel.cell (p := ⟨w.heap.size, 1, none⟩) (by show w.heap.size < _; omega)).trans hb1
        have hcj : wr.cell? ⟨b, o + j, none⟩ = some (.int .u32 ((zs[j] : Nat) : Int)) := by
          refine (hbel.cell (p := ⟨b, o + j, none⟩) (by show b < _; omega)).trans ((HB2.out.cell (p := ⟨b, o + j, none⟩) (by show b < _; simp; omega)).trans ?_)
          exact (World.cell?_alloc_lt w _ ⟨b, o + j, none⟩ hb).trans (HC.out j hjl)
        have hlen2 := HLEN.out l _ hinv.out
        have hn : n = l.length := by have := hown.1; simpa [Lib.byteCells] using this.symm
        have HI := Lib.hid (hinv.out.step hjl)
        have hsz := hbel.size
        have hsz0 := HB2.out.size
        have hsz1 : w.heap.size + 1 ≤ w2.heap.size := by simpa using hsz0
        have HG := Lib.hid (appendGroup_any (w.heap.size + 1) n zs[j] hz9 _ l wr hown (by omega) (by omega))
        have hjl' : (j : Int) < (zs.length : Int) + 1 := by omega
        clear hinv hz9 hlen2 hn hsz0
        generalize zs[j] = g at *
        go_wp2_with (go_at_call 172; refine HG.out.mono ?_; rintro e w3 ⟨v3, rfl, hown3, hb3⟩)
        go_roundw
        case rel => exact ⟨j, n + 9, _, by omega, rfl, hown3, HI, hbel.trans hb3⟩
        case measure => simp [intOf]
  · go_enter Tryz.func158, Tryz.ntmps158
    go_wp2_with (at_builtin; refine wpList_app1 (World.ownsRow_nil (w.alloc (.cells #[.bool true, .slice (some ⟨b, o, none⟩) (zs.length + 1) c] 159)) (w.heap.size + 1) 5 1) _ rfl _ _ 153 rfl i1 (.int .u8 0) 1 Tryz.underlying153 hi' hz0' hz1' hz2' rfl rfl (by rw [World.size_alloc]; rfl) rfl (by unfold maxLen; omega) (by omega) (by simp) ?_; intro v0 w0 hown0 hb0; have f1 := f1_of (m := true) (z := .slice (some ⟨b, o, none⟩) (zs.length + 1) c) hb0; have f2 := f2_of hb hcq hb0)
    have HV2 := Lib.hid (HV1.out (.cells #[.bool true, .slice (some ⟨b, o, none⟩) (zs.length + 1) c] 159) |>.below (by rw [World.size_alloc]; exact hb0))
    have hsz0' : w.heap.size + 1 ≤ w0.heap.size := by simpa using hb0.size
    refine (appendUint_any (w.heap.size + 1) 1 q HQ.out _ [45] _ HV2.out hown0 hsz0' (by omega)).mono ?_
    rintro e w2 ⟨v2, rfl, hown2, hb2⟩
    have HB2 : Hid (Below (w.alloc (.cells #[.bool true, .slice (some ⟨b, o, none⟩) (zs.length + 1) c] 159)).heap.size (w.alloc (.cells #[.bool true, .slice (some ⟨b, o, none⟩) (zs.length + 1) c] 159)) w2) := by
      show Below _ _ _
      rw [World.size_alloc]; exact hb0.trans hb2
    clear hb2 hown0 f1 f2 hb0 hsz0'
    obtain ⟨bc, bf⟩ := bcell HB2.out
    have c0 := bc w.heap.size 0 (by simp)
    have c1 := bc w.heap.size 1 (by simp)
    have hb0 : w2.cell? ⟨w.heap.size, 0, none⟩ = some (.bool true) := by rw [c0, World.cell?_alloc_at _ _ _ _ rfl]; rfl
    have hb1 : w2.cell? ⟨w.heap.size, 1, none⟩ = some (.slice (some ⟨b, o, none⟩) (zs.length + 1) c) := by rw [c1, World.cell?_alloc_at _ _ _ _ rfl]; rfl
    have HOWN := Lib.hid hown2
    clear bc bf c0 c1 hown2 hb0
    go_wp2
    go_loopw [3, 5] (fun out i wr => ∃ (j n : Nat) (l : List UInt8), j ≤ zs.length ∧ i = .int .i64 ((j : Int) - 1) ∧ wr.ownsRow (w.heap.size + 1) 5 1 out n (Lib.byteCells l) ∧ Hid (TgInv true zs q l j) ∧ Below (w.heap.size + 1) w2 wr) (fun _ i _ => (intOf i + 1).toNat)
    case atStart => exact ⟨zs.length, _, _, Nat.le_refl _, rfl, HOWN.out, HS, Below.refl _ _⟩
    case round =>
      obtain ⟨j, n, l, hj, rfl, hown, hinv, hbel⟩ := hrel
      cases j with
      | zero =>
        have HX := Lib.hid (HL.out l hinv.out)
        have hcv := conv_own (P := Tryz.prog) hown 153 120 Tryz.underlying153 Tryz.underlying5 Tryz.underlying120
        have HBF := Lib.hid (bt ((Below.refl _ w).alloc (Nat.le_refl _) (.cells #[.bool true, .slice (some ⟨b, o, none⟩) (zs.length + 1) c] 159)) ((HB2.out.trans (hbel.mono (by simp)))))
        clear hinv HL HS HC HZ HLEN hown
        go_wp2
        go_ret
        exact ⟨ret_str HX.out, HBF.out⟩
      | succ j =>
        have ej : ((j + 1 : Nat) : Int) - 1 = (j : Int) := by omega
        rw [ej]
        clear ej
        have hjl : j < zs.length := hj
        have hz9 := HZ.out j hjl
        have hb1' : wr.cell? ⟨w.heap.size, 1, none⟩ = some (.slice (some ⟨b, o, none⟩) (zs.length + 1) c) := (hbel.cell (p := ⟨w.heap.size, 1, none⟩) (by show w.heap.size < _; omega)).trans hb1
        have hcj : wr.cell? ⟨b, o + j, none⟩ = some (.int .u32 ((zs[j] : Nat) : Int)) := by
          refine (hbel.cell (p := ⟨b, o + j, none⟩) (by show b < _; omega)).trans ((HB2.out.cell (p := ⟨b, o + j, none⟩) (by show b < _; simp; omega)).trans ?_)
          exact (World.cell?_alloc_lt w _ ⟨b, o + j, none⟩ hb).trans (HC.out j hjl)
        have hlen2 := HLEN.out l _ hinv.out
        have hn : n = l.length := by have := hown.1; simpa [Lib.byteCells] using this.symm
        have HI := Lib.hid (hinv.out.step hjl)
        have hsz := hbel.size
        have hsz0 := HB2.out.size
        have hsz1 : w.heap.size + 1 ≤ w2.heap.size := by simpa using hsz0
        have HG := Lib.hid (appendGroup_any (w.heap.size + 1) n zs[j] hz9 _ l wr hown (by omega) (by omega))
        have hjl' : (j : Int) < (zs.length : Int) + 1 := by omega
        clear hinv hz9 hlen2 hn hsz0
        generalize zs[j] = g at *
        go_wp2_with (go_at_call 172; refine HG.out.mono ?_; rintro e w3 ⟨v3, rfl, hown3, hb3⟩)
        go_roundw
        case rel => exact ⟨j, n + 9, _, by omega, rfl, hown3, HI, hbel.trans hb3⟩
        case measure => simp [intOf]
theorem text_of (m : Bool) (A : Option Addr) (c : Nat) (zs : List Nat) (w : World) (hA : SlA encU w A zs) (hz : Nrm zs) (hlen : zs.length ≤ 1048576) (hv : VarT w) :
    Calls Tryz.prog 158 #[.agg #[.bool m, .slice A zs.length c]] w fun e w' => e = .returned (.string ⟨(Lib.itoa (sgn m (vl 1000000000 zs))).toArray⟩) ∧ Below w.heap.size w w' := by
  by_cases h0 : zs = []
  · subst h0; exact text_zero m A c w
  · have e := List.dropLast_concat_getLast h0
    obtain ⟨ys, q, rfl⟩ : ∃ ys q, zs = ys ++ [q] := ⟨_, _, e.symm⟩
    have hq := hz.top h0
    have hl : (ys ++ [q]).length = ys.length + 1 := by simp
    rw [hl, Nat.add_sub_cancel, List.getD_eq_getElem?_getD] at hq
    simp at hq
    rw [hl]
    exact text_pos m A c ys q w hA hz.lt (by omega) (by rw [hl] at hlen; omega) hv
end Go.Proofs.YtalejbabhjlehaaGreatDoor

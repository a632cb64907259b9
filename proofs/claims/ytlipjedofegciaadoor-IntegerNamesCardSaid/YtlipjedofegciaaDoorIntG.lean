/- The walks of layer 1: parse: a range over the groups of nine digits. -/
import Derived.RangeFuncBox
import Derived.RangeFuncLeaves
import Derived.Shelf.Abstract
import Derived.WalkKit
import Derived.OwnWalkIn
import Derived.TacticsInMore
import Derived.LoopNIn
import Derived.LoopIn
import Derived.Maps.AppendAt
import Derived.Test.YtlipjedofegciaaDoorIntM2
namespace Go.Proofs.YtlipjedofegciaaDoor
open Go Go.RowKit Go.Shelf

attribute [local go_sem] Oper.semAt_some

theorem dig_at' (t : ByteArray) (ho : odB t.data.toList = true) (j : Nat) (h : j < t.size) : 48 ≤ (t[j].toNat : Int) ∧ (t[j].toNat : Int) ≤ 57 := by
  unfold odB at ho
  exact (dgB_iff _).1 (List.all_eq_true.1 ho t[j] (List.mem_of_getElem? (getElem_toList t j h)))
theorem val_step (t : ByteArray) (k : Nat) (h : k < t.size) : vl 10 (dgs (t.data.toList.take (k + 1))) = 10 * vl 10 (dgs (t.data.toList.take k)) + (t[k].toNat - 48) := by
  have hl : k < t.data.toList.length := by simpa using h
  rw [take_snoc _ k hl, dgs_concat]
  simp only [vl]
  show (t[k].toNat - 48) + _ = _
  omega

set_option maxRecDepth 100000 in
set_option maxHeartbeats 600000 in
theorem value_any (t : ByteArray) (ho : odB t.data.toList = true) (h9 : t.size ≤ 9) (w : World) :
    Calls Tryd.prog 102 #[.string t] w fun e w' => e = .returned (.int .u32 ((vl 10 (dgs t.data.toList) : Nat) : Int)) ∧ w = w' := by
  have HO := Lib.hid ho
  have HB : Hid (∀ k, k ≤ 8 → vl 10 (dgs (t.data.toList.take k)) ≤ 99999999) := by
    intro k hk
    have h1 := vl_lt 10 (dgs (t.data.toList.take k)) (dgs_lt _ (by unfold odB at *; exact List.all_eq_true.2 fun c hc => List.all_eq_true.1 ho c (List.mem_of_mem_take hc)))
    have h2 : (dgs (t.data.toList.take k)).length ≤ 8 := by rw [dgs_length]; exact Nat.le_trans (List.length_take_le _ _) hk
    have h3 : 10 ^ (dgs (t.data.toList.take k)).length ≤ 10 ^ 8 := Nat.pow_le_pow_right (by omega) h2
    have h4 : (10 : Nat) ^ 8 = 100000000 := by decide
    omega
  clear ho
  go_enter Tryd.func102, Tryd.ntmps102
  go_wp2
  go_loop [3, 7] (fun n i => ∃ k : Nat, k ≤ t.size ∧ i = .int .i64 k ∧ n = .int .u32 ((vl 10 (dgs (t.data.toList.take k)) : Nat) : Int)) (fun _ i => t.size - (intOf i).toNat)
  case atStart => exact ⟨0, by omega, rfl, by simp [dgs, vl]⟩
  case round =>
    obtain ⟨k, hk, rfl, rfl⟩ := hrel
    by_cases hlt : k < t.size
    · obtain ⟨hd1, hd2⟩ := dig_at' t HO.out k hlt
      have hle := HB.out k (by omega)
      have HS := Lib.hid (val_step t k hlt)
      have hle' : ((vl 10 (dgs (t.data.toList.take k)) : Nat) : Int) ≤ 99999999 := by omega
      clear hle HO HB
      generalize vl 10 (dgs (t.data.toList.take k)) = v at *
      go_wp2
      go_round
      case rel => exact ⟨k + 1, by omega, by go_num, int_eq (by rw [HS.out]; omega)⟩
      case measure => simp [intOf]; omega
    · obtain rfl : k = t.size := by omega
      have HF : Hid (t.data.toList.take t.size = t.data.toList) := by show _ = _; rw [List.take_of_length_le (by simp)]
      clear HO HB
      go_wp2
      go_ret
      exact ⟨ret_int (by rw [HF.out]), rfl⟩

theorem value_mid (s : ByteArray) (ho : odB s.data.toList = true) (a e : Nat) (he : e ≤ s.size) (h9 : e - a ≤ 9) (hr : e - a = 9 ∨ a = 0) (w : World) :
    Calls Tryd.prog 102 #[.string (s.extract a e)] w fun r w' => r = .returned (.int .u32 ((vl 10 (((dgs s.data.toList).drop (s.size - e)).take 9) : Nat) : Int)) ∧ w = w' := by
  have e1 := Lib.extract_data s a e
  have hl : s.data.toList.length = s.size := (Lib.size_eq s).symm
  have ho' : odB (s.extract a e).data.toList = true := by
    rw [e1]
    unfold odB at *
    exact List.all_eq_true.2 fun c hc => List.all_eq_true.1 ho c (List.mem_of_mem_drop (List.mem_of_mem_take hc))
  have hsz : (s.extract a e).size ≤ 9 := by
    rw [Lib.size_eq, e1, List.length_take, List.length_drop]; omega
  have h := value_any (s.extract a e) ho' hsz w
  rw [e1, dgs_mid s.data.toList a e (by omega) h9 hr, hl] at h
  exact h

/-- How many groups. -/
def ngr (n : Nat) : Nat := (n + 8) / 9

set_option maxRecDepth 100000 in
set_option maxHeartbeats 1000000 in
theorem groups1_in (n : Nat) (hn : 1 ≤ n) (l Bn : Nat) (s : ByteArray) (hs : s.size ≤ 1099511627776) (ho : odB s.data.toList = true) (J Jx : List Nat → World → Prop)
    (hY : ∀ pre x W, J pre W → pre.length < ngr s.size → YieldAt Fence.wide (n - 1) Tryd.prog l #[.int .u32 (x : Nat)] W fun e W' =>
      (e = .returned (.bool true) ∧ J (pre ++ [x]) W' ∧ W'.heap[Bn]? = W.heap[Bn]?) ∨ (e = .returned (.bool false) ∧ Jx (pre ++ [x]) W'))
    (W : World) (hBn : W.cell? ⟨Bn, 0, none⟩ = some (.string s)) (h0 : J [] W) :
    CallsIn Fence.wide n Tryd.prog 101 #[.func (.yield l) #[] #[], .pointer (some ⟨Bn, 0, none⟩)] W fun e W' => (∃ v, e = .returned v) ∧
      ((∃ ys, ys = grps (dgs s.data.toList) (ngr s.size) ∧ J ys W') ∨ (∃ pre, True ∧ Jx pre W')) := by
  refine callsIn_of_wp Tryd.func101 rfl trivial ?_ rfl
  simp only [Tryd.ntmps101, List.size_toArray, List.length_cons, List.length_nil, Nat.reduceAdd, Nat.reduceSub, Array.replicate_succ, Array.replicate_zero, List.push_toArray, List.append_toArray, List.nil_append, List.cons_append]
  have HJ := Lib.hid hY
  have HO := Lib.hid ho
  clear hY ho
  gi_wp2
  gi_loopw [3] (fun p wr => ∃ (k : Nat), 9 * k < s.size + 9 ∧ p = .int .i64 ((s.size : Int) - 9 * (k : Int)) ∧ wr.cell? ⟨Bn, 0, none⟩ = some (.string s) ∧ J (grps (dgs s.data.toList) k) wr)
    (fun p _ => (intOf p).toNat)
  case atStart => exact ⟨0, by omega, int_eq (by omega), hBn, h0⟩
  case round =>
    obtain ⟨k, hk, rfl, hcell, hJs⟩ := hrel
    by_cases hlt : 9 * k < s.size
    · obtain ⟨e, he⟩ : ∃ e : Nat, s.size = 9 * k + e := ⟨s.size - 9 * k, by omega⟩
      have ee : (s.size : Int) - 9 * (k : Int) = (e : Int) := by omega
      have hkn : (grps (dgs s.data.toList) k).length < ngr s.size := by rw [grps_length]; unfold ngr; omega
      obtain ⟨fn, tmps, assign, body, hy, hR⟩ := HJ.out _ (vl 10 (((dgs s.data.toList).drop (9 * k)).take 9)) wr hJs hkn
      have hR' := Lib.hid hR
      clear hR
      rw [ee]
      have ek9 : s.size - e = 9 * k := by omega
      have hke : Hid ((s.size : Int) - 9 * ((k + 1 : Nat) : Int) = (e : Int) - 9) := by show _ = _; omega
      have hgs : Hid (grps (dgs s.data.toList) (k + 1) = grps (dgs s.data.toList) k ++ [vl 10 (((dgs s.data.toList).drop (9 * k)).take 9)]) := grps_succ _ _
      by_cases h9 : 9 ≤ e
      · obtain ⟨a, rfl⟩ : ∃ a, e = a + 9 := ⟨e - 9, by omega⟩
        have HV := Lib.hid (value_mid s HO.out a (a + 9) (by omega) (by omega) (.inl (by omega)) wr)
        rw [ek9] at HV
        have has : (a : Int) + 9 ≤ (s.size : Int) := by omega
        have has2 : (((a + 9 : Nat)) : Int) = (a : Int) + 9 := by omega
        rw [has2]
        clear he ee ek9 hk hlt hkn h9 has2
        have h0a : decide ((0 : Int) < (a : Int) + 9) = true := decide_eq_true (by omega)
        gi_wp2_with (refine ⟨trivial, ?_⟩; gi_at_call 102; refine (callsIn_wide.2 HV.out).mono ?_; rintro e w' ⟨rfl, rfl⟩)
        refine hR'.out.mono ?_
        rintro e W3 (⟨rfl, hJ3, hk3⟩ | ⟨rfl, hJx3⟩)
        · have hc3 : W3.cell? ⟨Bn, 0, none⟩ = some (.string s) := (World.cell?_of_block (w := wr) hk3).trans hcell
          gi_wp2
          go_roundw
          case rel => exact ⟨k + 1, by have := hke.out; omega, int_eq (by rw [hke.out]; omega), hc3, by rw [hgs.out]; exact hJ3⟩
          case measure => simp [intOf]; omega
        · gi_wp2
          refine bodyPost_ret (results_none rfl _ _ _) rfl ?_
          exact ⟨⟨_, rfl⟩, .inr ⟨_, trivial, hJx3⟩⟩
      · have HV := Lib.hid (value_mid s HO.out 0 e (by omega) (by omega) (.inr rfl) wr)
        rw [ek9] at HV
        have has : (e : Int) ≤ (s.size : Int) := by omega
        have h0a : (0 : Int) < (e : Int) := by omega
        have h9' : max ((e : Int) - 9) 0 = 0 := by omega
        clear he ee ek9 hk hlt hkn h9
        gi_wp2_with (refine ⟨trivial, ?_⟩; gi_at_call 102; refine (callsIn_wide.2 HV.out).mono ?_; rintro e w' ⟨rfl, rfl⟩)
        refine hR'.out.mono ?_
        rintro e' W3 (⟨rfl, hJ3, hk3⟩ | ⟨rfl, hJx3⟩)
        · have hc3 : W3.cell? ⟨Bn, 0, none⟩ = some (.string s) := (World.cell?_of_block (w := wr) hk3).trans hcell
          gi_wp2
          go_roundw
          case rel => exact ⟨k + 1, by have := hke.out; omega, int_eq (by rw [hke.out]), hc3, by rw [hgs.out]; exact hJ3⟩
          case measure => simp [intOf]; omega
        · gi_wp2
          refine bodyPost_ret (results_none rfl _ _ _) rfl ?_
          exact ⟨⟨_, rfl⟩, .inr ⟨_, trivial, hJx3⟩⟩
    · have hke : Hid (k = ngr s.size) := by show _ = _; unfold ngr; omega
      have hle : (s.size : Int) - 9 * (k : Int) ≤ 0 := by omega
      obtain ⟨z, hz⟩ : ∃ z : Int, (s.size : Int) - 9 * (k : Int) = z := ⟨_, rfl⟩
      rw [hz] at hle ⊢
      clear hz hlt hk
      gi_wp2
      go_end0
      exact ⟨⟨_, rfl⟩, .inl ⟨_, rfl, by rw [← hke.out]; exact hJs⟩⟩

set_option maxHeartbeats 1000000 in
theorem groups_in (n : Nat) (s : ByteArray) (w : World) :
    CallsIn Fence.wide n Tryd.prog 80 #[.string s] w fun e w' => e = .returned (.func (.func 101) #[] #[.pointer (some ⟨w.heap.size, 0, none⟩)]) ∧ w' = w.alloc (.cells #[.string s] 9) := by
  refine callsIn_of_wp Tryd.func80 rfl trivial ?_ rfl
  simp only [Tryd.ntmps80, List.size_toArray, List.length_cons, List.length_nil, Nat.reduceAdd, Nat.reduceSub, Array.replicate_succ, Array.replicate_zero, List.push_toArray, List.append_toArray, List.nil_append, List.cons_append]
  gi_wp2
  go_ret
  exact ⟨rfl, rfl⟩

theorem groups_stops (n : Nat) (hn : 1 ≤ n) (Bn : Nat) (s : ByteArray) (hs : s.size ≤ 1099511627776) (ho : odB s.data.toList = true) (w : World) (hBn : Bn < w.heap.size) (hc : w.cell? ⟨Bn, 0, none⟩ = some (.string s)) :
    SeqStopsK Fence.wide n Tryd.prog 101 #[.pointer (some ⟨Bn, 0, none⟩)] (fun x : Nat => #[Value.int .u32 x]) (fun W W' => W'.heap[Bn]? = W.heap[Bn]?) (fun ys => ys = grps (dgs s.data.toList) (ngr s.size)) (fun _ => True) (ngr s.size) w := fun l J Jx W hW _ _ hY h0 =>
  groups1_in n hn l Bn s hs ho J Jx hY W ((hW.cell (p := ⟨Bn, 0, none⟩) hBn).trans hc) h0

/-- A row's block is no block of another element type. -/
theorem row_ne {W : World} {base : Nat} {e t : TypeId} {k r : Nat} {v : Value} {xs : List Value} {cs : Array Value} {fr : Nat × Nat} (h : W.ownsRow base e 1 v k xs) (hr : W.heap[r]? = some (.cells cs t fr)) (hne : t ≠ e) : some r ≠ v.ownBlock := by
  rcases h.2 with ⟨rfl, _⟩ | ⟨g, cap, cur, rfl, _, hgb, _⟩
  · simp [Value.ownBlock]
  · intro e'
    obtain rfl : r = g := by simpa [Value.ownBlock] using e'
    rw [hr] at hgb
    injection hgb with hgb
    injection hgb with _ ht
    exact hne ht
theorem own_cap {W : World} {base : Nat} {e : TypeId} {k : Nat} {v : Value} {xs : List Nat} (h : W.ownsRow base e 1 v k (xs.map encU)) : ∃ A c, v = .slice A k c ∧ k = xs.length ∧ SlA encU W A xs ∧ k ≤ c ∧ c ≤ maxLen := by
  obtain ⟨A, c, h1, h2, h3⟩ := SlA.of_own h
  refine ⟨A, c, h1, h2, h3, ?_⟩
  rcases h.2 with ⟨hv, hn⟩ | ⟨g, cap, cur, hv, _, _, hnc, hcm, _⟩
  · rw [h1] at hv; injection hv with _ _ hc; omega
  · rw [h1] at hv
    injection hv with _ _ hc
    rw [hc]; exact ⟨hnc, hcm⟩
theorem block_own {β : Type} (r : Nat) (o : Obj) (ho : o.isCells = true) (B : Nat) : OwnFrom B (fun (_ : β) W => W.heap[r]? = some o) := fun s X Y row h hg hr => by
  have hlt := lt_of_block h
  refine (hg.block r hlt (fun e => ?_)).trans h
  obtain ⟨_, o', ho', hc⟩ := hr r e.symm
  rw [h] at ho'
  injection ho' with ho'
  rw [← ho', ho] at hc
  cases hc

theorem cut_minus (s : ByteArray) (b : List UInt8) (hb : bod s.data.toList = b) (g : Bool) (hg : ngB s.data.toList = g) (w : World) :
    Calls Tryd.prog 79 #[.string s, .string ⟨#[45]⟩] w fun e w' => e = .returned (.tuple #[.string ⟨b.toArray⟩, .bool g]) ∧ w' = w := by
  have h := Tryd.strings_CutPrefix s ⟨#[45]⟩ w
  have e1 : Lib.trimPrefix s.data.toList (⟨#[45]⟩ : ByteArray).data.toList = b := hb
  have e2 : Lib.hasPrefix s.data.toList (⟨#[45]⟩ : ByteArray).data.toList = g := by
    rw [← hg]
    match s.data.toList with
    | [] => rfl
    | c :: r =>
      show (45 == c && [].isPrefixOf r) = (some c == some 45)
      by_cases hc : c = 45
      · subst hc; rfl
      · have h1 : (45 == c) = false := by rw [beq_eq_false_iff_ne]; exact fun e => hc e.symm
        have h2 : (some c == some (45 : UInt8)) = false := by rw [beq_eq_false_iff_ne]; exact fun e => hc (by injection e)
        rw [h1, h2]; rfl
  rw [e1, e2] at h
  exact h

set_option maxRecDepth 100000 in
set_option maxHeartbeats 2000000 in
theorem parse_in (s : ByteArray) (b : List UInt8) (hb : bod s.data.toList = b) (g : Bool) (hg : ngB s.data.toList = g) (ho : odB b = true) (hlen : b.length ≤ 1000) (w : World) :
    CallsIn Fence.wide 5 Tryd.prog 48 #[.string s] w fun e w' => ∃ A c zs, e = .returned (.agg #[.bool g, .slice A zs.length c]) ∧ SlA encU w' A zs ∧ Nrm zs ∧ vl 1000000000 zs = vl 10 (dgs b) ∧ zs.length ≤ 112 ∧ zs.length ≤ c ∧ c ≤ maxLen ∧ Below w.heap.size w w' := by
  obtain ⟨i0, hi, hz0, hz1, hz2⟩ := info_parts Tryd.infoU
  have HC := Lib.hid (cut_minus s b hb g hg)
  have HO := Lib.hid ho
  have hbs : (⟨b.toArray⟩ : ByteArray).size = b.length := rfl
  clear hb hg ho
  refine callsIn_of_wp_marks Tryd.func48 rfl trivial ?_ rfl
  simp only [Tryd.ntmps48, List.size_toArray, List.length_cons, List.length_nil, Nat.reduceAdd, Nat.reduceSub, Array.replicate_succ, Array.replicate_zero, List.push_toArray, List.append_toArray, List.nil_append, List.cons_append]
  gi_wp2_with (first
    | (refine ⟨trivial, ?_⟩; gi_at_call 79; refine (callsIn_wide.2 (HC.out _)).mono ?_; rintro e w' ⟨rfl, rfl⟩)
    | (gi_at_make; refine wpListIn_make_own _ rfl _ _ 68 rfl (w.heap.size + 1) 77 i0 (.int .u32 0) 1 Tryd.underlying68 hi hz0 hz1 _ _ _ (b.length / 9 + 1) rfl rfl (by omega) (by rw [hz2]; omega) (by unfold maxLen; omega) (by simp) ?_; intro w1 hown hg1)
    | (refine ⟨trivial, ?_⟩; gi_at_call 80; refine (groups_in _ _ _).mono ?_; rintro e w' ⟨rfl, rfl⟩))
  have hsz1 : w.heap.size + 1 ≤ w1.heap.size := by have := hg1.size; simpa using this
  have hres1 : w1.heap[w.heap.size]? = some (.cells #[.bool false, .slice none 0 0] 70 (0, 0)) := (hg1.block w.heap.size (by simp) (by simp)).trans (heap_alloc_new w _)
  have hb1 : Below w.heap.size w w1 := (((Below.refl _ w).alloc (Nat.le_refl _) _)).grown hg1 (by simp) (fun k e => by cases e)
  have hown1 : w1.ownsRow (w.heap.size + 1) 77 1 (.slice (some ⟨w.heap.size + 1, 0, none⟩) 0 (b.length / 9 + 1)) 0 [] := by simpa using hown
  obtain ⟨WL, hWL⟩ : ∃ WL, (w1.alloc (.cells #[.slice (some ⟨w.heap.size + 1, 0, none⟩) 0 (b.length / 9 + 1)] 68)).alloc (.cells #[.string ⟨b.toArray⟩] 9) = WL := ⟨_, rfl⟩
  have bO : Boxed WL w1.heap.size 68 (.slice (some ⟨w.heap.size + 1, 0, none⟩) 0 (b.length / 9 + 1)) := by rw [← hWL]; exact (Boxed.new w1 _ _).alloc _
  have bN : Boxed WL (w1.heap.size + 1) 9 (.string ⟨b.toArray⟩) := by
    rw [← hWL]; have := Boxed.new (w1.alloc (.cells #[.slice (some ⟨w.heap.size + 1, 0, none⟩) 0 (b.length / 9 + 1)] 68)) 9 (.string ⟨b.toArray⟩)
    rwa [World.size_alloc] at this
  have hszL : WL.heap.size = w1.heap.size + 2 := by rw [← hWL]; simp
  have hresL : WL.heap[w.heap.size]? = some (.cells #[.bool false, .slice none 0 0] 70 (0, 0)) := by
    rw [← hWL]; exact (Below.heap_alloc _ _ _ (by simp; omega)).trans ((Below.heap_alloc _ _ _ (by omega)).trans hres1)
  have hownL : WL.ownsRow (w.heap.size + 1) 77 1 (.slice (some ⟨w.heap.size + 1, 0, none⟩) 0 (b.length / 9 + 1)) 0 [] := by rw [← hWL]; exact (hown1.alloc _).alloc _
  have hbL : Below w.heap.size w WL := by rw [← hWL]; exact (hb1.alloc hb1.size _).alloc (by have := hb1.size; simp; omega) _
  rw [hWL]
  clear hWL hown hown1 hres1
  refine wpIn_rangeFunc_ownG rfl (by omega) (gf := 101) (lb := #[.pointer (some ⟨w1.heap.size + 1, 0, none⟩)]) rfl trivial (enters_of Tryd.func101 (by kernel_rfl) rfl)
    (groups_stops (5 - 1) (by omega) (w1.heap.size + 1) ⟨b.toArray⟩ (by show b.length ≤ _; omega) HO.out WL (by omega) bN.cell) (fun h k => k.trans h)
    (fun W l o o' hl _ _ _ => World.putObj_heap_other (by omega)) (Below.refl _ _) (fun _ => rfl)
    (fun pre W => (∃ v, Boxed W w1.heap.size 68 v ∧ W.ownsRow (w.heap.size + 1) 77 1 v pre.length (pre.map encU) ∧ True) ∧ (W.heap[w1.heap.size + 1]? = some (.cells #[.string ⟨b.toArray⟩] 9 (0, 0)) ∧ (W.heap[w.heap.size]? = some (.cells #[.bool false, .slice none 0 0] 70 (0, 0)) ∧ Below w.heap.size w W)))
    (fun _ _ _ => False)
    (OwnFrom.and (Own.from (holdsRow_own (w.heap.size + 1) w1.heap.size 68 77 1 (fun pre : List Nat => pre.length) (fun pre => pre.map encU) (fun _ _ => True)) _) (OwnFrom.and (block_own _ _ rfl _) (OwnFrom.and (block_own _ _ rfl _) (ownFrom_below (Nat.le_refl _) (by omega)))))
    (fun _ _ _ _ _ hs _ _ => hs)
    ⟨⟨_, bO, hownL, trivial⟩, bN, hresL, hbL⟩
    (fun x => { tmps := #[.string s, undef, .pointer (some ⟨w.heap.size, 0, none⟩), .string ⟨b.toArray⟩, .bool g, .pointer (some ⟨w1.heap.size, 0, none⟩), .int .u32 x, .tuple #[.string ⟨b.toArray⟩, .bool g], .string s, .tuple #[.string ⟨b.toArray⟩, .bool g], .string ⟨b.toArray⟩, .bool g, .string ⟨b.toArray⟩, .int .i64 b.length, .int .i64 ((b.length : Int) / 9), .int .i64 ((b.length : Int) / 9 + 1), .slice (some ⟨w.heap.size + 1, 0, none⟩) 0 (b.length / 9 + 1), .string ⟨b.toArray⟩, .func (.func 101) #[] #[.pointer (some ⟨w1.heap.size + 1, 0, none⟩)], .int .u32 x, undef, undef, undef, undef, undef, undef, undef, undef], defers := [] }) ?assign ?body ?done ?stop
  case assign =>
    intro l x W K hK
    gi_wp2
    exact hK
  case body =>
    rintro l pre x W ⟨⟨v, hv, hrow, _⟩, hN, hres, hB⟩ hlt
    have hc := hv.cell
    have hpl : pre.length ≤ 200 := by have : ngr (⟨b.toArray⟩ : ByteArray).size ≤ 200 := by unfold ngr; rw [hbs]; omega
                                      omega
    have hszW := hB.size
    have hszW1 := hv.lt
    gi_wp2_with (gi_at_builtin; refine wpListIn_append_own _ rfl _ _ 68 rfl (w.heap.size + 1) 77 i0 (.int .u32 0) 1 4 Tryd.underlying68 hi hz0 hz1 hz2 rfl (by decide) _ _ _ rfl (hrow.alloc _) ⟨W.heap.size, 0, none⟩ 1 1 [.int .u32 x] rfl rfl (cell_one_new _ _ _) (by simp [Value.oneCell']) (by unfold maxLen; omega) (by omega) (by simp; omega) ?_; intro v' w2 hown' hgrow _; obtain ⟨g', cap', rfl⟩ := ownsRow_succ hown'; obtain ⟨hv1, hv2, hr2, hk2, hb2⟩ := hv.appended (by decide) hrow (by omega) (by omega) hown' hgrow; have hc1 := hv1.cell; have hf1 := hv1.frozen)
    have hN2 := (hgrow.block (w1.heap.size + 1) (by have := lt_of_block hN; simp; omega) (row_ne hrow hN (by decide))).trans ((Below.heap_alloc _ _ _ (lt_of_block hN)).trans hN)
    have hR2 := (hgrow.block w.heap.size (by have := lt_of_block hres; simp; omega) (row_ne hrow hres (by decide))).trans ((Below.heap_alloc _ _ _ (lt_of_block hres)).trans hres)
    have hN3 := (Below.heap_setCell w2 ⟨w1.heap.size, 0, none⟩ (.slice (some ⟨g', 0, none⟩) (pre.length + 1) cap') (w1.heap.size + 1) (by simp)).trans hN2
    have hR3 := (Below.heap_setCell w2 ⟨w1.heap.size, 0, none⟩ (.slice (some ⟨g', 0, none⟩) (pre.length + 1) cap') w.heap.size (by show w.heap.size ≠ w1.heap.size; omega)).trans hR2
    exact ⟨hk2.from _, hN3.trans hN.symm, ⟨_, hv2, by simpa [encU] using hr2, trivial⟩, hN3, hR3, hB.trans (hb2.mono (by omega))⟩
  case done =>
    rintro D ys W hD rfl ⟨⟨v, hv, hrow, _⟩, hN, hres, hB⟩ hK
    have hc := hv.cell
    obtain ⟨A, c, rfl, hn, hS, hkc, hcm⟩ := own_cap hrow
    have hzlen : (grps (dgs b) (ngr b.length)).length ≤ 112 := by rw [grps_length]; unfold ngr; omega
    have hzval : vl 1000000000 (grps (dgs b) (ngr b.length)) = vl 10 (dgs b) := grps_all _ _ (by rw [dgs_length]; unfold ngr; omega)
    have hzlt := grps_lt (dgs b) (ngr b.length) (dgs_lt b HO.out)
    have ez : grps (dgs (⟨b.toArray⟩ : ByteArray).data.toList) (ngr (⟨b.toArray⟩ : ByteArray).size) = grps (dgs b) (ngr b.length) := rfl
    rw [ez] at hS hkc hc hrow
    clear hv hn
    generalize grps (dgs b) (ngr b.length) = zs at hS hkc hc hzlen hzval hzlt hrow
    have HT := Lib.hid (trim_any A c zs W hS hkc hcm)
    have HZ1 := Lib.hid hzval
    have HZ2 := Lib.hid hzlt
    have hr0 : W.cell? ⟨w.heap.size, 0, none⟩ = some (.bool false) := by simp [World.cell?, hres]
    have hr1 : W.cell? ⟨w.heap.size, 1, none⟩ = some (.slice none 0 0) := by simp [World.cell?, hres]
    have hrf0 : W.frozen? ⟨w.heap.size, 0, none⟩ = false := by simp [World.frozen?, hres]
    have hrf1 : W.frozen? ⟨w.heap.size, 1, none⟩ = false := by simp [World.frozen?, hres]
    have hKne : D ≠ w.heap.size := by rintro rfl; rw [hK] at hres; cases hres
    have HKK := Lib.hid hK
    have HRES := Lib.hid hres
    have HBB := Lib.hid hB
    have HROW : Hid (W.ownsRow (w.heap.size + 1) 77 1 (.slice A zs.length c) zs.length (zs.map encU)) := hrow
    clear ez hrow hN hzval hzlt hK hres hB hbs
    gi_wp2_with (refine ⟨trivial, ?_⟩; gi_at_call 81; refine (callsIn_wide.2 HT.out).mono ?_; rintro e w' ⟨ys, rfl, ht, rfl⟩; have HTr := Lib.hid ht; clear ht)
    obtain ⟨W2, hW2⟩ : ∃ W2, (W.setCell ⟨w.heap.size, 0, none⟩ (.bool g)).setCell ⟨w.heap.size, 1, none⟩ (.slice A ys.length c) = W2 := ⟨_, rfl⟩
    rw [hW2]
    have hb3 : Below w.heap.size w W2 := by rw [← hW2]; exact (HBB.out.setCell (p := ⟨w.heap.size, 0, none⟩) (Nat.le_refl _) _).setCell (p := ⟨w.heap.size, 1, none⟩) (Nat.le_refl _) _
    have hK2 : W2.heap[D]? = some (.deferred (some [])) := by
      rw [← hW2]
      exact (Below.heap_setCell _ ⟨w.heap.size, 1, none⟩ _ D hKne).trans ((Below.heap_setCell _ ⟨w.heap.size, 0, none⟩ _ D hKne).trans HKK.out)
    have hres2 : W2.heap[w.heap.size]? = some (.cells #[.bool g, .slice A ys.length c] 70 (0, 0)) := by
      rw [← hW2]
      have h1 := heap_setCell_same W w.heap.size 0 _ _ (.bool g) HRES.out
      have h2 := heap_setCell_same _ w.heap.size 1 _ _ (.slice A ys.length c) h1
      exact h2
    obtain ⟨W3, hW3⟩ : ∃ W3, W2.putObj D (.deferred none) = W3 := ⟨_, rfl⟩
    have hg3 : W2.grownBy W3 (some D) := by rw [← hW3]; exact grownBy_putObj' _ _ _
    have hres3 : W3.heap[w.heap.size]? = some (.cells #[.bool g, .slice A ys.length c] 70 (0, 0)) := (hg3.block _ (lt_of_block hres2) (by simpa using fun e => hKne e.symm)).trans hres2
    have hb4 : Below w.heap.size w W3 := hb3.grown hg3 hb3.size (fun k e => by cases e; have := HBB.out.size; omega)
    have hrun := run_takeDeferred (P := Tryd.prog) hK2
    refine ⟨by simp, .inl ⟨_, _, rfl, hrun, ?_⟩⟩
    rw [hW3]
    have hrow2 : W2.ownsRow (w.heap.size + 1) 77 1 (.slice A zs.length c) zs.length (zs.map encU) := by
      rw [← hW2]
      exact ownsRow_setCell_below (ownsRow_setCell_below HROW.out (a := ⟨w.heap.size, 0, none⟩) (by show w.heap.size < _; omega) _) (a := ⟨w.heap.size, 1, none⟩) (by show w.heap.size < _; omega) _
    have hrow3 : W3.ownsRow (w.heap.size + 1) 77 1 (.slice A zs.length c) zs.length (zs.map encU) := by
      rw [← hW3]; exact ownsRow_putObj hrow2 _ hK2 rfl
    obtain ⟨A', c', hv', _, hS3⟩ := SlA.of_own hrow3
    obtain ⟨rfl, rfl⟩ : A = A' ∧ c = c' := by injection hv' with h1 _ h3; exact ⟨h1, h3⟩
    refine ⟨_, results_cell_row rfl _ W3 w.heap.size 70 #[.bool g, .slice A ys.length c] (0, 0) _ rfl hres3 Tryd.underlying70 (by kernel_rfl) (by kernel_rfl), A, c, ys, rfl, hS3.trimmed HTr.out, Nrm.of (fun t => ?_) HTr.out, by rw [HTr.out.2.1, HZ1.out], Nat.le_trans HTr.out.len hzlen, Nat.le_trans HTr.out.len hkc, hcm, hb4⟩
    exact getD_lt 1000000000 zs HZ2.out (by omega) t
  case stop =>
    rintro D c pre W _ _ h _
    exact h.elim

/-- parse at a canonical integer. -/
theorem parse_any (s : ByteArray) (h : chk s.data.toList = 0) (w : World) :
    Calls Tryd.prog 48 #[.string s] w fun e w' => ∃ A c zs, e = .returned (.agg #[.bool (ngB s.data.toList), .slice A zs.length c]) ∧ SlA encU w' A zs ∧ Nrm zs ∧ num s.data.toList = sgn (ngB s.data.toList) (vl 1000000000 zs) ∧ zs.length ≤ 112 ∧ zs.length ≤ c ∧ c ≤ maxLen ∧ Below w.heap.size w w' := by
  have ho : odB (bod s.data.toList) = true := by
    rcases can_cases _ (by rw [h]; decide : ¬ chk s.data.toList = 12) with e | ⟨_, ho⟩
    · rw [e]; decide
    · exact ho
  refine (callsIn_wide.1 (parse_in s _ rfl _ rfl ho (bod_len_of_chk h).1 w)).mono ?_
  rintro e w' ⟨A, c, zs, h1, h2, h3, h4, h5⟩
  exact ⟨A, c, zs, h1, h2, h3, by rw [h4]; rfl, h5⟩
end Go.Proofs.YtlipjedofegciaaDoor

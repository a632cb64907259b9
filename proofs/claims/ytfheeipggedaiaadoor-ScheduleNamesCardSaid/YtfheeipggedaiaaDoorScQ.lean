/- Layer 6: the program's walks: regular days, by a range over a function. -/
import Derived.Test.YtfheeipggedaiaaDoorScP
import Derived.Test.YtfheeipggedaiaaDoorCalG
import Derived.RangeFuncBox
import Derived.OwnWalkIn
import Derived.BigRegionIn
import Derived.Laws.EntriesVeiled
namespace Go.Proofs.YtfheeipggedaiaaDoor
open Go Go.RowKit Go.Shelf

attribute [local go_sem] Oper.semAt_some

set_option maxHeartbeats 400000 in
theorem isDayS_any (n : Int) (b : Bool) (h : dayB n = b) (w : World) :
    Calls Tryd.prog 27 #[.int .i64 n] w fun e w' => e = .returned (.bool b) ∧ w = w' := by
  by_cases hd : 0 ≤ n ∧ n ≤ 99999
  · have hb : b = true := by rw [← h]; exact (dayB_iff n).2 hd
    have HD := Lib.hid (weekday_in n hd.1 hd.2 w)
    clear h hd
    subst hb
    go_enter Tryd.func27, Tryd.ntmps27
    go_wp2_with (go_at_call 49; ((with_reducible refine HD.out.mono ?_); rintro e w' ⟨rfl, rfl⟩))
    go_ret
    exact ⟨rfl, rfl⟩
  · have hb : b = false := by rw [← h]; exact Bool.eq_false_iff.2 (fun e => hd ((dayB_iff n).1 e))
    have HD := Lib.hid (weekday_out n (by omega) w)
    clear h hd
    subst hb
    go_enter Tryd.func27, Tryd.ntmps27
    go_wp2_with (go_at_call 49; ((with_reducible refine HD.out.mono ?_); rintro e w' ⟨rfl, rfl⟩))
    go_ret
    exact ⟨rfl, rfl⟩

/-- Is a day at the far end, as the closure tells it. -/
def atX (bk : Bool) (far x : Int) : Bool := if bk then decide (x ≤ far) else decide (far ≤ x)
set_option maxHeartbeats 400000 in
theorem atFar_any (B Bf : Nat) (bk : Bool) (far x : Int) (w : World) (h3 : w.cell? ⟨B, 3, none⟩ = some (.bool bk)) (hf : w.cell? ⟨Bf, 0, none⟩ = some (.int .i64 far)) :
    Calls Tryd.prog 62 #[.int .i64 x, .pointer (some ⟨B, 0, none⟩), .pointer (some ⟨Bf, 0, none⟩)] w fun e w' => e = .returned (.bool (atX bk far x)) ∧ w = w' := by
  unfold atX
  cases bk
  · go_enter Tryd.func62, Tryd.ntmps62
    go_wp2
    go_ret
    exact ⟨ret_boolD (by simp), rfl⟩
  · go_enter Tryd.func62, Tryd.ntmps62
    go_wp2
    go_ret
    exact ⟨ret_boolD (by simp), rfl⟩

theorem daysFromS_in (n : Nat) (b σ : Int) (la : Bool) (w : World) :
    CallsIn Fence.wide n Tryd.prog 63 #[.int .i64 b, .int .i64 σ, .bool la] w fun e w' => e = .returned (.func (.func 72) #[] #[.pointer (some ⟨w.heap.size, 0, none⟩), .pointer (some ⟨w.heap.size + 1, 0, none⟩), .pointer (some ⟨w.heap.size + 2, 0, none⟩)]) ∧
      w' = ((w.alloc (.cells #[.int .i64 b] 3)).alloc (.cells #[.int .i64 σ] 3)).alloc (.cells #[.bool la] 4) := by
  refine callsIn_of_wp Tryd.func63 rfl trivial ?_ rfl
  simp only [Tryd.ntmps63, List.size_toArray, List.length_cons, List.length_nil, Nat.reduceAdd, Nat.reduceSub, Array.replicate_succ, Array.replicate_zero, List.push_toArray, List.append_toArray, List.nil_append, List.cons_append]
  gi_wp2
  go_ret
  exact ⟨rfl, rfl⟩

/-- What a round keeps. -/
def KpS (w0 : World) (Bf Bs Bl : Nat) (A A' : World) : Prop := Below w0.heap.size A A' ∧ A'.heap[Bf]? = A.heap[Bf]? ∧ A'.heap[Bs]? = A.heap[Bs]? ∧ A'.heap[Bl]? = A.heap[Bl]?
theorem cntL_pre (v : Nat → Int) {j K : Nat} (h : j ≤ K) : cntL v j <+: cntL v K := by
  obtain ⟨t, rfl⟩ : ∃ t, K = j + t := ⟨K - j, by omega⟩
  refine ⟨(List.range t).map fun i => v (j + i), ?_⟩
  unfold cntL
  rw [List.range_add, List.map_append, List.map_map]
  rfl
theorem pre_cntL {v : Nat → Int} {K : Nat} {pre : List Int} {x : Int} (h : pre ++ [x] <+: cntL v K) : pre = cntL v pre.length ∧ x = v pre.length ∧ pre.length < K := by
  obtain ⟨rest, hr⟩ := h
  have hl : pre.length < K := by
    have := congrArg List.length hr
    simp [cntL_len] at this
    omega
  have hx : ∀ i, i < K → (pre ++ [x] ++ rest)[i]? = some (v i) := fun i hi => by rw [hr, cntL_get _ _ _ hi]
  refine ⟨?_, ?_, hl⟩
  · apply List.ext_getElem?
    intro i
    rcases Nat.lt_or_ge i pre.length with g | g
    · have := hx i (by omega)
      rw [List.append_assoc, List.getElem?_append_left g] at this
      rw [this, cntL_get _ _ _ g]
    · rw [List.getElem?_eq_none g, List.getElem?_eq_none (by rw [cntL_len]; exact g)]
  · have := hx pre.length hl
    rw [List.append_assoc, List.getElem?_append_right (Nat.le_refl _)] at this
    simpa using this

set_option maxRecDepth 100000 in
set_option maxHeartbeats 1600000 in
theorem daysFrom1S_in (n : Nat) (hn : 1 ≤ n) (l Bf Bs Bl : Nat) (b σ : Int) (la : Bool) (v e : Nat → Int) (K : Nat) (hK : K ≤ 4001) (s0 : -1200 ≤ σ) (s1 : σ ≤ 1200) (he : ∀ k, k < K → e k = 0) (heK : e K ≠ 0) (w0 : World)
    (HA : ∀ k, k ≤ K → ∀ W, Below w0.heap.size w0 W → Calls Tryd.prog 25 #[.int .i64 b, .int .i64 (k * σ), .bool la] W fun x w' => x = .returned (.tuple #[.int .i64 (v k), .int .i64 (e k)]) ∧ W = w')
    (J Jx : List Int → World → Prop)
    (hY : ∀ pre x A, J pre A → pre ++ [x] <+: cntL v K → YieldAt Fence.wide (n - 1) Tryd.prog l #[.int .i64 x] A fun e A' =>
      (e = .returned (.bool true) ∧ J (pre ++ [x]) A' ∧ KpS w0 Bf Bs Bl A A') ∨ (e = .returned (.bool false) ∧ Jx (pre ++ [x]) A'))
    (W : World) (hW : Below w0.heap.size w0 W) (hf : W.heap[Bf]? = some (.cells #[.int .i64 b] 3 (0, 0))) (hs : W.heap[Bs]? = some (.cells #[.int .i64 σ] 3 (0, 0))) (hl : W.heap[Bl]? = some (.cells #[.bool la] 4 (0, 0))) (h0 : J [] W) :
    CallsIn Fence.wide n Tryd.prog 72 #[.func (.yield l) #[] #[], .pointer (some ⟨Bf, 0, none⟩), .pointer (some ⟨Bs, 0, none⟩), .pointer (some ⟨Bl, 0, none⟩)] W fun e W' => (∃ v, e = .returned v) ∧
      (J (cntL v K) W' ∨ ∃ pre, pre <+: cntL v K ∧ Jx pre W') := by
  refine callsIn_of_wp Tryd.func72 rfl trivial ?_ rfl
  simp only [Tryd.ntmps72, List.size_toArray, List.length_cons, List.length_nil, Nat.reduceAdd, Nat.reduceSub, Array.replicate_succ, Array.replicate_zero, List.push_toArray, List.append_toArray, List.nil_append, List.cons_append]
  have HY := Lib.hid hY
  have JA := Lib.hid HA
  have HE := Lib.hid he
  have HK := Lib.hid heK
  clear hY HA he heK
  gi_wp2
  gi_loopw [5] (fun s wr => ∃ k : Nat, k ≤ K ∧ s = .int .i64 k ∧ wr.heap[Bf]? = some (.cells #[.int .i64 b] 3 (0, 0)) ∧ wr.heap[Bs]? = some (.cells #[.int .i64 σ] 3 (0, 0)) ∧ wr.heap[Bl]? = some (.cells #[.bool la] 4 (0, 0)) ∧ Hid (Below w0.heap.size w0 wr) ∧ J (cntL v k) wr)
    (fun s _ => K + 1 - (intOf s).toNat)
  case atStart => exact ⟨0, by omega, rfl, hf, hs, hl, hW, h0⟩
  case round =>
    clear hf hs hl h0
    obtain ⟨k, hk, rfl, hf, hs, hl, HB, hJs⟩ := hrel
    have hcf : wr.cell? ⟨Bf, 0, none⟩ = some (.int .i64 b) := by simp [World.cell?, hf]
    have hcs : wr.cell? ⟨Bs, 0, none⟩ = some (.int .i64 σ) := by simp [World.cell?, hs]
    have hcl : wr.cell? ⟨Bl, 0, none⟩ = some (.bool la) := by simp [World.cell?, hl]
    have HC := Lib.hid (JA.out k hk wr HB.out)
    have k1 : (k : Int) ≤ 4001 := by omega
    have hm0 : -4801200 ≤ (k : Int) * σ := by
      have := Int.mul_le_mul_of_nonneg_left s0 (show (0 : Int) ≤ k by omega)
      omega
    have hm1 : (k : Int) * σ ≤ 4801200 := by
      have := Int.mul_le_mul_of_nonneg_left s1 (show (0 : Int) ≤ k by omega)
      omega
    rcases Nat.eq_or_lt_of_le hk with rfl | hlt
    · have hne : (e k != 0) = true := by rw [bne_iff_ne]; exact HK.out
      clear HY JA HE HK hf hs hl
      gi_wp2_with (refine ⟨trivial, ?_⟩; gi_at_call 25; refine (callsIn_wide.2 HC.out).mono ?_; rintro x w' ⟨rfl, rfl⟩)
      refine ⟨fun f hf => (by cases hf), ?_⟩
      gi_wp2
      refine bodyPost_ret (results_none rfl _ _ _) rfl ?_
      exact ⟨⟨_, rfl⟩, .inl hJs⟩
    · have hpx : cntL v k ++ [v k] <+: cntL v K := by rw [← cntL_succ]; exact cntL_pre v hlt
      have HP : Hid (cntL v (k + 1) = cntL v k ++ [v k]) := cntL_succ v k
      have e0 := HE.out k hlt
      rw [e0] at HC
      obtain ⟨fn, tmps, assign, body, hy, hR⟩ := HY.out (cntL v k) (v k) wr hJs hpx
      have hR' := Lib.hid hR
      clear hR HY JA HE HK e0
      generalize v k = x at *
      gi_wp2_with (refine ⟨trivial, ?_⟩; gi_at_call 25; refine (callsIn_wide.2 HC.out).mono ?_; rintro x w' ⟨rfl, rfl⟩)
      refine hR'.out.mono ?_
      rintro e' W3 (⟨rfl, hJ3, hb3, hk1, hk2, hk3⟩ | ⟨rfl, hJx3⟩)
      · have hf3 := hk1.trans hf
        have hs3 := hk2.trans hs
        have hl3 := hk3.trans hl
        have HB3 := Lib.hid (HB.out.trans hb3)
        have HJ3 : Hid (J (cntL v (k + 1)) W3) := by rw [HP.out]; exact hJ3
        clear hf hs hl hcf hcs hcl hJs hJ3 hb3 hk1 hk2 hk3
        gi_wp2
        go_roundw
        case rel => exact ⟨k + 1, hlt, by go_num, hf3, hs3, hl3, HB3, HJ3.out⟩
        case measure => simp [intOf]; omega
      · gi_wp2
        refine bodyPost_ret (results_none rfl _ _ _) rfl ?_
        exact ⟨⟨_, rfl⟩, .inr ⟨_, hpx, hJx3⟩⟩
end Go.Proofs.YtfheeipggedaiaaDoor

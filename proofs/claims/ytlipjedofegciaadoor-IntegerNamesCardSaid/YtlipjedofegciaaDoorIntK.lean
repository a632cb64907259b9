/- The walks of layer 1: the guess of a group of the quotient. -/
import Derived.Test.YtlipjedofegciaaDoorIntD3
import Derived.Laws.Externs
import Derived.BigQuiet
namespace Go.Proofs.YtlipjedofegciaaDoor
open Go Go.RowKit

theorem add64_run (x y : Nat) (hx : x < 18446744073709551616) (hy : y < 18446744073709551616) (w : World) :
    (callFunc 104 #[.int .u64 x, .int .u64 y, .int .u64 0]).run Tryd.prog w = .ok (.value (.tuple #[.int .u64 (((x + y) % 18446744073709551616 : Nat) : Int), .int .u64 (((x + y) / 18446744073709551616 : Nat) : Int)])) w := by
  rw [run_callFunc_extern Tryd.func104 (by kernel_rfl) (by kernel_rfl) (by kernel_rfl) (e := add64Entry) (by kernel_rfl)]
  rw [run_add64 (P := Tryd.prog) (x : Int) (y : Int) 0 (by omega) (by omega) (by omega) (by omega) w]
  simp only [Result.andThen]
  rw [show ((x : Int) + y + 0) % 18446744073709551616 = (((x + y) % 18446744073709551616 : Nat) : Int) from by omega, show ((x : Int) + y + 0) / 18446744073709551616 = (((x + y) / 18446744073709551616 : Nat) : Int) from by omega]

/-- The group below the two that count. -/
def low (xs : List Nat) (k : Nat) : Nat := if k = 0 then 0 else xs.getD (k - 1) 0
theorem low_lt (xs : List Nat) (k : Nat) (h : ∀ d ∈ xs, d < 1000000000) : low xs k < 1000000000 := by
  unfold low; split
  · omega
  · exact getD_lt 1000000000 xs h (by omega) _
theorem at_low (A : Option Addr) (c : Nat) (ds : List Nat) (w : World) (hA : SlA encU w A ds) (k : Nat) :
    Calls Tryd.prog 85 #[.slice A ds.length c, .int .i64 ((k : Int) - 1)] w fun e w' => e = .returned (.int .u32 ((low ds k : Nat) : Int)) ∧ w = w' := by
  unfold low
  cases k with
  | zero => exact mat_neg A c _ w _ (by omega)
  | succ k =>
    rw [show ((k + 1 : Nat) : Int) - 1 = (k : Int) from by omega, if_neg (by omega), Nat.add_sub_cancel]
    exact mat_any A c ds w hA k
theorem SlA.heap {α : Type} {enc : α → Value} {w W : World} {A : Option Addr} {xs : List α} (h : SlA enc w A xs) (e : W.heap = w.heap) : SlA enc W A xs := fun j x hx => by
  obtain ⟨b, o, h1, h2, h3⟩ := h j x hx
  refine ⟨b, o, h1, by rw [e]; exact h2, ?_⟩
  unfold World.cell? at *
  rw [e]; exact h3
theorem guess_nums (X a D U V H L C : Nat) (hD : 1000000000 ≤ D) (hX : X * 1000000000 = H * 18446744073709551616 + L) (hL : L < 18446744073709551616) (ha : a ≤ 999999999)
    (hC : C = (L + a) / 18446744073709551616) (hV : V = (L + a) % 18446744073709551616) (hU : U = H + C) (hlt : X * 1000000000 + a < (D + 1) * 1000000000) :
    U * 18446744073709551616 + V = X * 1000000000 + a ∧ U < D ∧ C ≤ 1 := by omega

theorem guess_pack (X a D : Nat) (hX : X ≤ 999999999999999999) (hD : 1000000000 ≤ D) (ha : a ≤ 999999999) (hlt : X * 1000000000 + a < (D + 1) * 1000000000) :
    ∃ H L C V U, X * 1000000000 / 18446744073709551616 = H ∧ X * 1000000000 % 18446744073709551616 = L ∧ L < 18446744073709551616 ∧ (L + a) / 18446744073709551616 = C ∧ (L + a) % 18446744073709551616 = V ∧ V < 18446744073709551616 ∧ H + C = U ∧ H ≤ 999999999999999999 ∧
      U * 18446744073709551616 + V = X * 1000000000 + a ∧ U < D ∧ C ≤ 1 := by
  have hm := Nat.div_add_mod' (X * 1000000000) 18446744073709551616
  have hl : X * 1000000000 % 18446744073709551616 < 18446744073709551616 := Nat.mod_lt _ (by decide)
  obtain ⟨q1, q2, q3⟩ := guess_nums X a D (X * 1000000000 / 18446744073709551616 + (X * 1000000000 % 18446744073709551616 + a) / 18446744073709551616) ((X * 1000000000 % 18446744073709551616 + a) % 18446744073709551616) (X * 1000000000 / 18446744073709551616) (X * 1000000000 % 18446744073709551616) ((X * 1000000000 % 18446744073709551616 + a) / 18446744073709551616) hD hm.symm hl ha rfl rfl rfl hlt
  refine ⟨_, _, _, _, _, rfl, rfl, hl, rfl, rfl, Nat.mod_lt _ (by decide), rfl, ?_, q1, q2, q3⟩
  refine Nat.le_trans (Nat.div_le_div_right (Nat.mul_le_mul_right 1000000000 hX)) (by decide)
theorem mul64_g (x y H L : Nat) (hx : x < 18446744073709551616) (hy : y < 18446744073709551616) (hH : x * y / 18446744073709551616 = H) (hL : x * y % 18446744073709551616 = L) (w : World) :
    Calls Tryd.prog 103 #[.int .u64 x, .int .u64 y] w fun e w' => e = .returned (.tuple #[.int .u64 H, .int .u64 L]) ∧ w = w' := by
  subst hH hL; exact (Tryd.bits_Mul64 x y hx hy w).mono fun _ _ h => ⟨h.1, h.2.symm⟩
theorem mul64_B (x H L : Nat) (hx : x < 18446744073709551616) (hH : x * 1000000000 / 18446744073709551616 = H) (hL : x * 1000000000 % 18446744073709551616 = L) (w : World) :
    Calls Tryd.prog 103 #[.int .u64 x, .int .u64 1000000000] w fun e w' => e = .returned (.tuple #[.int .u64 H, .int .u64 L]) ∧ w = w' := by
  have h := mul64_g x 1000000000 H L hx (by decide) hH hL w
  have e : ((1000000000 : Nat) : Int) = 1000000000 := by first | simp | decide
  rw [e] at h
  exact h

set_option maxRecDepth 100000 in
set_option maxHeartbeats 400000 in
theorem guess_any (A B : Option Addr) (ca cb : Nat) (os ys : List Nat) (m n k : Nat) (hm : m = n + 1) (hn : n = k + 1) (hO : os.length = m) (hY : ys.length = n) (w : World) (hA : SlA encU w A os) (hB : SlA encU w B ys)
    (ho : ∀ d ∈ os, d < 1000000000) (hy : ∀ d ∈ ys, d < 1000000000) (u1 u0 v1 : Nat) (e1 : os[n]'(by omega) = u1) (e0 : os[k]'(by omega) = u0) (f1 : ys[k]'(by omega) = v1) (hv : 1 ≤ v1) (hk : k ≤ 1073741824) (hlt : (u1 * 1000000000 + u0) * 1000000000 + low os k < (v1 * 1000000000 + low ys k + 1) * 1000000000) :
    Calls Tryd.prog 82 #[.slice A m ca, .slice B n cb] w fun e w' => e = .returned (.int .u64 ((((u1 * 1000000000 + u0) * 1000000000 + low os k) / (v1 * 1000000000 + low ys k) : Nat) : Int)) ∧ ∃ dn, w' = w.drewN dn := by
  have hu1 : (u1 : Int) ≤ 999999999 := by have := ho _ (List.getElem_mem (l := os) (n := n) (by omega)); omega
  have hu0 : (u0 : Int) ≤ 999999999 := by have := ho _ (List.getElem_mem (l := os) (n := k) (by omega)); omega
  have hv1 : (v1 : Int) ≤ 999999999 := by have := hy _ (List.getElem_mem (l := ys) (n := k) (by omega)); omega
  have hv0 : 1 ≤ (v1 : Int) := by omega
  have LA : Hid (∀ W : World, W.heap = w.heap → Calls Tryd.prog 85 #[.slice A m ca, .int .i64 ((k : Int) - 1)] W fun e w' => e = .returned (.int .u32 ((low os k : Nat) : Int)) ∧ W = w') := fun W hW => by
    have := at_low A ca os W (hA.heap hW) k
    rwa [hO] at this
  have LB : Hid (∀ dn, Calls Tryd.prog 85 #[.slice B n cb, .int .i64 ((k : Int) - 1)] (w.drewN dn) fun e w' => e = .returned (.int .u32 ((low ys k : Nat) : Int)) ∧ w.drewN dn = w') := fun dn => by
    have := at_low B cb ys (w.drewN dn) (hB.heap rfl) k
    rwa [hY] at this
  have hla := low_lt os k ho
  have hlb := low_lt ys k hy
  obtain ⟨b1, o1, rfl, _, hc1⟩ := hA.all (by intro h; rw [h] at hO; simp at hO; omega)
  obtain ⟨b2, o2, rfl, _, hc2⟩ := hB.all (by intro h; rw [h] at hY; simp at hY; omega)
  have k1 := hc1 n (by omega)
  have k0 := hc1 k (by omega)
  have j1 := hc2 k (by omega)
  rw [e1] at k1
  rw [e0] at k0
  rw [f1] at j1
  unfold encU at k1 k0 j1
  generalize low os k = a at *
  generalize low ys k = b at *
  have ha' : (a : Int) ≤ 999999999 := by omega
  have hb' : (b : Int) ≤ 999999999 := by omega
  have hk' : (k : Int) ≤ 1073741824 := by omega
  obtain ⟨X, hX⟩ : ∃ X, u1 * 1000000000 + u0 = X := ⟨_, rfl⟩
  obtain ⟨D, hD⟩ : ∃ D, v1 * 1000000000 + b = D := ⟨_, rfl⟩
  have eX : (u1 : Int) * 1000000000 + (u0 : Int) = (X : Int) := by omega
  have eD : (v1 : Int) * 1000000000 + (b : Int) = (D : Int) := by omega
  have hXb : (X : Int) ≤ 999999999999999999 := by omega
  have hDb : (D : Int) ≤ 999999999999999999 := by omega
  rw [hX, hD] at hlt ⊢
  obtain ⟨H, L, C, V, U, hH, hL, hL1, hC, hV, hV1, hU, hH1, q1, q2, q3⟩ := guess_pack X a D (by omega) (by omega) (by omega) hlt
  have MU := Lib.hid (mul64_B X H L (by omega) hH hL)
  have AD := add64_run L a hL1 (by omega)
  rw [hC, hV] at AD
  have DV := Lib.hid (fun W => div64_any U V D q2 (by omega) (by omega) W)
  rw [q1] at DV
  have eU : (H : Int) + (C : Int) = (U : Int) := by omega
  have hHb : (H : Int) ≤ 999999999999999999 := by omega
  have hCb : (C : Int) ≤ 1 := by omega
  have hn1 : 0 ≤ (u1 : Int) := by omega
  have hn0 : 0 ≤ (u0 : Int) := by omega
  have hna : 0 ≤ (a : Int) := by omega
  have hnb : 0 ≤ (b : Int) := by omega
  have en1 : (n : Int) - 1 = (k : Int) := by omega
  have en2 : (n : Int) - 2 = (k : Int) - 1 := by omega
  have en3 : (k : Int) < (n : Int) := by omega
  have en4 : (k : Int) < (m : Int) := by omega
  have en5 : (n : Int) < (m : Int) := by omega
  have ek0 : (0 : Int) ≤ (k : Int) := by omega
  have en0 : (0 : Int) ≤ (n : Int) := by omega
  have enb : (n : Int) ≤ 1073741825 := by omega
  have ew2 : IntKind.i64.wrap ((k : Int) - 1) = (k : Int) - 1 := by simp [IntKind.wrap, IntKind.bits, IntKind.signed]; omega
  have ew : IntKind.i64.wrap (k : Int) = (k : Int) := by simp [IntKind.wrap, IntKind.bits, IntKind.signed]; omega
  clear hm hn hA hB ho hy hc1 hc2 hO hY e1 e0 f1 hla hlb hk hlt hX hD hH hL hL1 hC hV hV1 hU hH1 q1 q2 q3 hv
  go_enter Tryd.func82, Tryd.ntmps82
  go_wp2_with fail
  go_quiet ((go_at_call 85; exact Calls.quiet_of_same ((LB.out _).mono fun _ _ h => ⟨h.1, h.2.symm⟩)))
  go_wp2_with fail
  have wu1 : IntKind.u64.wrap (u1 : Int) = (u1 : Int) := Mul64.wrapN _ (by omega)
  have wu0 : IntKind.u64.wrap (u0 : Int) = (u0 : Int) := Mul64.wrapN _ (by omega)
  have wuB : IntKind.u64.wrap ((u1 : Int) * 1000000000) = (u1 : Int) * 1000000000 := by rw [IntKind.wrap_u64]; omega
  have wX : IntKind.u64.wrap (X : Int) = (X : Int) := Mul64.wrapN _ (by omega)
  have k1' : (w.drewN nq).cell? ⟨b1, o1 + n, none⟩ = some (.int .u32 (u1 : Int)) := k1
  have k0' : (w.drewN nq).cell? ⟨b1, o1 + k, none⟩ = some (.int .u32 (u0 : Int)) := k0
  have hh : (w.drewN nq).heap = w.heap := rfl
  have hq : ∃ dn, w.drewN dn = w.drewN nq := ⟨_, rfl⟩
  clear k1 k0 j1 LB
  generalize w.drewN nq = w1 at *
  have HH := Lib.hid hh
  have HQ := Lib.hid hq
  clear hh hq
  go_quiet ((go_at_call 103; exact Calls.quiet_of_same ((MU.out _).mono fun _ _ h => ⟨h.1, h.2.symm⟩)))
  go_wp2_with (first
    | (go_at_call 85; refine (LA.out _ ?_).mono ?_; (exact HH.out); rintro e w2 ⟨rfl, rfl⟩)
    | (go_at_call 105; refine (DV.out _).mono ?_; rintro e w3 ⟨r, rfl, dn, rfl⟩))
  go_ret
  refine ⟨rfl, ?_⟩
  obtain ⟨d0, h0⟩ := HQ.out
  exact ⟨d0 + (nq + dn), by rw [← h0]; simp⟩
end Go.Proofs.YtlipjedofegciaaDoor

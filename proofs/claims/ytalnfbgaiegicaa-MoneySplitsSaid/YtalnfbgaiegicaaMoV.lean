/- Layer 7: walks of the library's stable sort: two parts exchanged, a part rotated. -/
import Derived.Test.YtalnfbgaiegicaaProg
import Derived.Test.YtalnfbgaiegicaaMoM
import Derived.Shelf.SlSortCmp.Kit1
import Derived.Shelf.SlSortCmp.Insertion1
import Derived.Deep.LoopGhost
import Derived.BigRegion
namespace Go.Proofs.Ytalnfbgaiegicaa
open Go Go.Shelf Go.RowKit Go.Lib Go.Sort Go.Proofs

section
variable {α : Type} [Inhabited α]
theorem xch_step {d dk : Array α} {a b i n : Nat} (h : ∀ x, dk[x]! = xchF (fun i => d[i]!) a b i x) (h1 : a + n ≤ b) (hi : i < n) (h2 : b + n ≤ dk.size) : ∀ x, (swp dk (a + i) (b + i))[x]! = xchF (fun i => d[i]!) a b (i + 1) x := by
  have key : ∀ u v : Nat, u = v → d[u]! = d[v]! := fun _ _ h => by rw [h]
  intro x
  by_cases e : x = a + i
  · subst e
    rw [swp_left dk _ _ (by omega) (by omega), h]
    unfold xchF
    rw [if_neg (by omega), if_neg (by omega), if_pos (by omega)]
    exact key _ _ (by omega)
  · by_cases e2 : x = b + i
    · subst e2
      rw [swp_right dk _ _ (by omega), h]
      unfold xchF
      rw [if_neg (by omega), if_neg (by omega), if_neg (by omega), if_pos (by omega)]
      exact key _ _ (by omega)
    · rw [swp_other dk _ _ x e e2, h]
      unfold xchF
      (repeat' split) <;> first | rfl | omega
set_option maxHeartbeats 4000000 in
set_option maxRecDepth 1000000 in
theorem swapRange_any (enc : α → Value) (g : Nat) (cb : Array Value) (blk off cap a b n : Nat) (aI bI nI : Int) (ha : aI = (a : Int)) (hb : bI = (b : Int)) (hn : nI = (n : Int)) (d0 d : Array α) (w0 w : World)
    (R : Row1 enc w0 blk off d0) (hs : d0.size = d.size) (S : SW enc w0 blk off d w) (h1 : a + n ≤ b) (h2 : b + n ≤ d.size) (hsz : d.size < 4611686018427387904) :
    Calls Try.prog 21 #[.slice (some ⟨blk, off, none⟩) d.size cap, .int .i64 aI, .int .i64 bI, .int .i64 nI, .func (.func g) #[] cb] w fun e w' => e = .returned (.tuple #[]) ∧ ∃ d' : Array α, d'.size = d.size ∧ (∀ x, d'[x]! = xchF (fun i => d[i]!) a b n x) ∧ SW enc w0 blk off d' w' := by
  subst ha hb hn
  have hcl0 := R.hO.cells
  simp only [Value.cells] at hcl0
  have hst := R.hO.store Try.prog
  have mixed : Try.prog.follows Departure.mixedOrders = true := by kernel_rfl
  have S0 : Aside (SW enc w0 blk off d w) := S
  clear S
  go_enter Try.func21, Try.ntmps21
  go_wp2
  go_loopg [10] n (fun kx s10 wr => ∃ (i : Nat) (dk : Array α), s10 = .int .i64 i ∧ i ≤ n ∧ n - i ≤ kx ∧ dk.size = d.size ∧ Aside (SW enc w0 blk off dk wr) ∧ Aside (∀ x, dk[x]! = xchF (fun i => d[i]!) a b i x))
  case atStart => exact ⟨0, d, rfl, by omega, by omega, rfl, S0, (fun x => by unfold xchF; rw [if_neg (by omega), if_neg (by omega)] : ∀ x, d[x]! = xchF (fun i => d[i]!) a b 0 x)⟩
  case round =>
    clear S0
    obtain ⟨i, dk, rfl, hin, hkx, hds, S1, X⟩ := hrel
    by_cases hlt : i < n
    · have hltz : (i : Int) < (n : Int) := by omega
      have X2 : Aside (∀ x, (swp dk (a + i) (b + i))[x]! = xchF (fun i => d[i]!) a b (i + 1) x) := xch_step X.out h1 hlt (by omega)
      clear X
      go_wp2_with fail
      obtain ⟨iN1, hiN1⟩ : ∃ q, q = a + i := ⟨_, rfl⟩
      obtain ⟨jN1, hjN1⟩ : ∃ q, q = b + i := ⟨_, rfl⟩
      have ea1 : ((a : Int) + (i : Int)).toNat = iN1 := by omega
      have pa1 : (0 : Int) ≤ (a : Int) + (i : Int) := by omega
      have ba1 : (a : Int) + (i : Int) < (d.size : Int) := by omega
      have ra1 : IntKind.i64.wrap ((a : Int) + (i : Int)) = (a : Int) + (i : Int) := by rw [IntKind.wrap_i64]; omega
      have ec1 : ((b : Int) + (i : Int)).toNat = jN1 := by omega
      have pc1 : (0 : Int) ≤ (b : Int) + (i : Int) := by omega
      have bc1 : (b : Int) + (i : Int) < (d.size : Int) := by omega
      have rc1 : IntKind.i64.wrap ((b : Int) + (i : Int)) = (b : Int) + (i : Int) := by rw [IntKind.wrap_i64]; omega
      obtain ⟨x1, hx1⟩ : ∃ x, x = dk[a + i]! := ⟨_, rfl⟩
      obtain ⟨y1, hy1⟩ : ∃ x, x = dk[b + i]! := ⟨_, rfl⟩
      have S2 : Aside (SW enc w0 blk off (swp dk (a + i) (b + i)) ((wr.setCell ⟨blk, off + iN1, none⟩ (enc y1)).setCell ⟨blk, off + jN1, none⟩ (enc x1)).drew) := by rw [hiN1, hjN1, hx1, hy1]; exact S1.out.swapped R (a + i) (b + i) (by omega) (by omega)
      have c1a := S1.out.c1 R (by omega) (a + i) (by omega)
      have c1b := S1.out.c1 R (by omega) (b + i) (by omega)
      have f1a := S1.out.f1 R (by omega) (a + i) (by omega)
      have f1b := S1.out.f1 R (by omega) (b + i) (by omega)
      obtain ⟨u1, c1c⟩ := S1.out.c2 R (by omega) (a + i) (b + i) (by omega) (by omega) (enc y1)
      rw [← hjN1, ← hiN1] at c1c
      rw [← hx1, ← hiN1] at c1a
      rw [← hy1, ← hjN1] at c1b
      rw [← hiN1] at f1a
      rw [← hjN1] at f1b
      clear S1 hx1 hy1 hiN1 hjN1
      go_wp2_with fail
      go_big_region_o
      clear c1a c1b c1c f1a f1b
      generalize ((wr.setCell ⟨blk, off + iN1, none⟩ (enc y1)).setCell ⟨blk, off + jN1, none⟩ (enc x1)).drew = w2 at S2 ⊢
      clear ea1 ec1
      go_wp2
      go_roundg (n - (i + 1))
      case measure => omega
      case rel => exact ⟨i + 1, swp dk (a + i) (b + i), by go_num, by omega, Nat.le_refl _, by rw [size_swp]; exact hds, S2, X2⟩
    · obtain rfl : i = n := by omega
      go_wp2
      go_end0
      exact ⟨rfl, dk, hds, X.out, S1.out⟩
set_option maxHeartbeats 4000000 in
set_option maxRecDepth 1000000 in
theorem rotate_any (enc : α → Value) (g : Nat) (cb : Array Value) (blk off cap a m b : Nat) (aI mI bI : Int) (ha : aI = (a : Int)) (hm : mI = (m : Int)) (hb : bI = (b : Int)) (d0 d : Array α) (w0 w : World)
    (R : Row1 enc w0 blk off d0) (hs : d0.size = d.size) (S : SW enc w0 blk off d w) (h1 : a < m) (h2 : m < b) (h3 : b ≤ d.size) (hsz : d.size < 4611686018427387904) :
    Calls Try.prog 20 #[.slice (some ⟨blk, off, none⟩) d.size cap, .int .i64 aI, .int .i64 mI, .int .i64 bI, .func (.func g) #[] cb] w fun e w' => e = .returned (.tuple #[]) ∧ ∃ d' : Array α, d'.size = d.size ∧ (∀ x, d'[x]! = rotF (fun i => d[i]!) a m b x) ∧ SW enc w0 blk off d' w' := by
  subst ha hm hb
  have S0 : Aside (SW enc w0 blk off d w) := S
  have HQ : Aside (∀ (x y n : Nat) (xI yI nI : Int) (dk : Array α) (W : World), xI = (x : Int) → yI = (y : Int) → nI = (n : Int) → dk.size = d.size → SW enc w0 blk off dk W → x + n ≤ y → y + n ≤ d.size →
      Calls Try.prog 21 #[.slice (some ⟨blk, off, none⟩) d.size cap, .int .i64 xI, .int .i64 yI, .int .i64 nI, .func (.func g) #[] cb] W fun e w' => e = .returned (.tuple #[]) ∧ ∃ d' : Array α, d'.size = d.size ∧ (∀ z, d'[z]! = xchF (fun i => dk[i]!) x y n z) ∧ SW enc w0 blk off d' w') :=
    fun x y n xI yI nI dk W hx hy hn hd hS g1 g2 => by
      have := swapRange_any enc g cb blk off cap x y n xI yI nI hx hy hn d0 dk w0 W R (by omega) hS g1 (by omega) (by omega)
      rw [hd] at this
      exact this
  clear S
  go_enter Try.func20, Try.ntmps20
  go_wp2_with fail
  go_loopg [10, 11] (b - a) (fun kx s10 s11 wr => ∃ (i j : Nat) (dk : Array α), s10 = .int .i64 i ∧ s11 = .int .i64 j ∧ 1 ≤ i ∧ 1 ≤ j ∧ a + i ≤ m ∧ m + j ≤ b ∧ i + j ≤ kx ∧ dk.size = d.size ∧ Aside (SW enc w0 blk off dk wr) ∧ Aside (∀ x, rotF (fun i => dk[i]!) (m - i) m (m + j) x = rotF (fun i => d[i]!) a m b x))
  case atStart =>
    exact ⟨m - a, b - m, d, by go_num, by go_num, by omega, by omega, by omega, by omega, by omega, rfl, S0, (fun x => by rw [show m - (m - a) = a by omega, show m + (b - m) = b by omega] : ∀ x, rotF (fun i => d[i]!) (m - (m - a)) m (m + (b - m)) x = rotF (fun i => d[i]!) a m b x)⟩
  case round =>
    clear S0
    obtain ⟨i, j, dk, rfl, rfl, hi1, hj1, ham, hmb, hkx, hds, S1, X⟩ := hrel
    rcases Nat.lt_trichotomy i j with hlt | heq | hgt
    · -- the right part is longer
      have z1 : (i : Int) < (j : Int) := by omega
      have z2 : ((i : Int) == (j : Int)) = false := by rw [beq_eq_false_iff_ne]; omega
      have HC := HQ.out (m - i) (m + j - i) i ((m : Int) - (i : Int)) ((m : Int) + (j : Int) - (i : Int)) (i : Int) dk wr (by omega) (by omega) rfl hds S1.out (by omega) (by omega)
      have X2 : Aside (∀ d' : Array α, (∀ z, d'[z]! = xchF (fun i => dk[i]!) (m - i) (m + j - i) i z) → ∀ x, rotF (fun i => d'[i]!) (m - i) m (m + (j - i)) x = rotF (fun i => d[i]!) a m b x) := fun d' hd' x => by
        rw [← X.out x, ← rot_right (fun i => dk[i]!) (a := m - i) (m := m) (b := m + j) (by omega) (by omega) (by omega) x]
        rw [show m + j - (m - (m - i)) = m + j - i by omega, show m + (j - i) = m + j - i by omega, show m - (m - i) = i by omega]
        have : (fun i => d'[i]!) = xchF (fun i => dk[i]!) (m - i) (m + j - i) i := funext hd'
        rw [this]
      clear X S1
      go_wp2_with fail
      go_wp2_with (go_at_call 21; ((with_reducible refine HC.mono ?_); rintro e w1 ⟨rfl, d', hd', hx', hS'⟩))
      have S2 : Aside (SW enc w0 blk off d' w1) := hS'
      have X3 : Aside _ := X2.out d' hx'
      clear hS' hx' X2
      go_wp2
      go_roundg (i + (j - i))
      case measure => omega
      case rel => exact ⟨i, j - i, d', rfl, by go_num, hi1, by omega, ham, by omega, Nat.le_refl _, hd', S2, X3⟩
    · subst heq
      have z2 : ((i : Int) == (i : Int)) = true := by rw [beq_iff_eq]
      have HC := HQ.out (m - i) m i ((m : Int) - (i : Int)) (m : Int) (i : Int) dk wr (by omega) rfl rfl hds S1.out (by omega) (by omega)
      have X2 : Aside (∀ d' : Array α, (∀ z, d'[z]! = xchF (fun i => dk[i]!) (m - i) m i z) → ∀ x, d'[x]! = rotF (fun i => d[i]!) a m b x) := fun d' hd' x => by
        rw [← X.out x, ← rot_same (fun i => dk[i]!) (a := m - i) (m := m) (b := m + i) (by omega) (by omega) (by omega) x, hd', show m - (m - i) = i by omega]
      clear X S1
      go_wp2_with (go_at_call 21; ((with_reducible refine HC.mono ?_); rintro e w1 ⟨rfl, d', hd', hx', hS'⟩))
      go_end0
      exact ⟨rfl, d', hd', X2.out d' hx', hS'⟩
    · have z1 : (j : Int) < (i : Int) := by omega
      have z2 : ((i : Int) == (j : Int)) = false := by rw [beq_eq_false_iff_ne]; omega
      have HC := HQ.out (m - i) m j ((m : Int) - (i : Int)) (m : Int) (j : Int) dk wr (by omega) rfl rfl hds S1.out (by omega) (by omega)
      have X2 : Aside (∀ d' : Array α, (∀ z, d'[z]! = xchF (fun i => dk[i]!) (m - i) m j z) → ∀ x, rotF (fun i => d'[i]!) (m - (i - j)) m (m + j) x = rotF (fun i => d[i]!) a m b x) := fun d' hd' x => by
        rw [← X.out x, ← rot_left (fun i => dk[i]!) (a := m - i) (m := m) (b := m + j) (by omega) (by omega) (by omega) x]
        rw [show m + j - m = j by omega, show m - i + j = m - (i - j) by omega]
        have : (fun i => d'[i]!) = xchF (fun i => dk[i]!) (m - i) m j := funext hd'
        rw [this]
      clear X S1
      go_wp2_with (go_at_call 21; ((with_reducible refine HC.mono ?_); rintro e w1 ⟨rfl, d', hd', hx', hS'⟩))
      have S2 : Aside (SW enc w0 blk off d' w1) := hS'
      have X3 : Aside _ := X2.out d' hx'
      clear hS' hx' X2
      go_wp2
      go_roundg ((i - j) + j)
      case measure => omega
      case rel => exact ⟨i - j, j, d', by go_num, rfl, by omega, hj1, by omega, hmb, Nat.le_refl _, hd', S2, X3⟩
end
end Go.Proofs.Ytalnfbgaiegicaa

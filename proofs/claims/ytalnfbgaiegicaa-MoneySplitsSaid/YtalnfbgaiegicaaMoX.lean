/- Layer 7: walks of the library's stable sort: two sorted parts merged in place. -/
import Derived.Test.YtalnfbgaiegicaaMoV
namespace Go.Proofs.Ytalnfbgaiegicaa
open Go Go.Shelf Go.RowKit Go.Lib Go.Sort Go.Proofs

section
variable {α : Type} [Inhabited α]
theorem rot_up {f : Nat → α} {dk : Array α} {a k : Nat} (h : ∀ x, dk[x]! = rotF f a (a + 1) (k + 1) x) (h1 : a ≤ k) (h2 : k + 1 < dk.size) : ∀ x, (swp dk k (k + 1))[x]! = rotF f a (a + 1) (k + 1 + 1) x := by
  have key : ∀ u v : Nat, u = v → f u = f v := fun _ _ h => by rw [h]
  intro x
  by_cases e : x = k
  · subst e
    rw [swp_left dk _ _ (by omega) (by omega), h]
    unfold rotF
    rw [if_pos (by omega), if_neg (by omega), if_pos (by omega)]
    exact key _ _ (by omega)
  · by_cases e2 : x = k + 1
    · subst e2
      rw [swp_right dk _ _ (by omega), h]
      unfold rotF
      rw [if_neg (by omega), if_neg (by omega), if_neg (by omega), if_neg (by omega)]
      exact key _ _ (by omega)
    · rw [swp_other dk _ _ x e e2, h]
      unfold rotF
      (repeat' split) <;> first | rfl | omega | (apply key; omega)
theorem rot_down {f : Nat → α} {dk : Array α} {k m : Nat} (h : ∀ x, dk[x]! = rotF f (k + 1) m (m + 1) x) (h1 : k + 1 ≤ m) (h2 : m < dk.size) : ∀ x, (swp dk (k + 1) k)[x]! = rotF f k m (m + 1) x := by
  have key : ∀ u v : Nat, u = v → f u = f v := fun _ _ h => by rw [h]
  intro x
  by_cases e : x = k + 1
  · subst e
    rw [swp_left dk _ _ (by omega) (by omega), h]
    unfold rotF
    rw [if_pos (by omega), if_neg (by omega), if_neg (by omega)]
    exact key _ _ (by omega)
  · by_cases e2 : x = k
    · subst e2
      rw [swp_right dk _ _ (by omega), h]
      unfold rotF
      rw [if_neg (by omega), if_pos (by omega), if_neg (by omega), if_pos (by omega)]
      exact key _ _ (by omega)
    · rw [swp_other dk _ _ x e e2, h]
      unfold rotF
      (repeat' split) <;> first | rfl | omega | (apply key; omega)
/-- What symMerge answers: the part is sorted. -/
def SymR (enc : α → Value) (bt : α → α → Prop) (blk off : Nat) (w0 : World) (a b : Nat) (d : Array α) (e : Ending) (w' : World) : Prop := e = .returned (.tuple #[]) ∧ ∃ d' : Array α, MvI a b d d' ∧ SrI bt a b d' ∧ SW enc w0 blk off d' w'
set_option maxHeartbeats 8000000 in
set_option maxRecDepth 1000000 in
theorem sym_left (enc : α → Value) (cf : α → α → Int) (bt : α → α → Prop) (pos : α → Nat) (H : OrdS bt (ltOf cf) pos) (g : Nat) (cb : Array Value) (blk off cap a m b N : Nat) (aI mI bI : Int) (ha : aI = (a : Int)) (hm : mI = (m : Int)) (hb : bI = (b : Int)) (d0 d : Array α) (w0 w : World)
    (eg : ∀ args w, (callFunc g args).run Try.prog w = .ok (.enter g args) w) (hcmp : CmpLays1 Try.prog g cb enc cf blk off d0.size w0) (R : Row1 enc w0 blk off d0) (hN : d0.size = N) (hsz : N < 1152921504606846976) (hs : d.size = N) (S : SW enc w0 blk off d w) (M : MrgI bt pos a m b d) (h1 : a < m) (h2 : m < b) (h3 : b ≤ N) (hone : m = a + 1) :
    Calls Try.prog 19 #[.slice (some ⟨blk, off, none⟩) N cap, .int .i64 aI, .int .i64 mI, .int .i64 bI, .func (.func g) #[] cb] w (SymR enc bt blk off w0 a b d) := by
  subst ha hm hb
  have hcl0 := R.hO.cells
  simp only [Value.cells] at hcl0
  have hst := R.hO.store Try.prog
  have mixed : Try.prog.follows Departure.mixedOrders = true := by kernel_rfl
  have S0 : Aside (SW enc w0 blk off d w) := S
  have HC : Aside _ := hcmp
  have HM : Aside _ := M
  have HH : Aside _ := H
  clear S hcmp M H
  have HO : Aside (m = a + 1) := hone
  have z0 : ((m : Int) - (a : Int) == 1) = true := by rw [beq_iff_eq]; omega
  clear hone
  go_enter Try.func19, Try.ntmps19
  go_wp2
  go_loopg [10, 11] b (fun kx s10 s11 wr => ∃ lo hi : Nat, s10 = .int .i64 lo ∧ s11 = .int .i64 hi ∧ m ≤ lo ∧ lo ≤ hi ∧ hi ≤ b ∧ hi - lo ≤ kx ∧ Aside (SW enc w0 blk off d wr) ∧ Aside ((m < lo → ltOf cf d[lo - 1]! d[a]! = true) ∧ (hi < b → ltOf cf d[hi]! d[a]! = false)))
  case atStart => exact ⟨m, b, rfl, rfl, by omega, by omega, by omega, by omega, S0, (⟨fun h => by omega, fun h => by omega⟩ : (m < m → ltOf cf d[m - 1]! d[a]! = true) ∧ (b < b → ltOf cf d[b]! d[a]! = false))⟩
  case round =>
    clear S0
    obtain ⟨lo, hi, rfl, rfl, hlo, hlh, hhi, hkx, S1, I⟩ := hrel
    by_cases hlt : lo < hi
    · have hltz : (lo : Int) < (hi : Int) := by omega
      obtain ⟨h, hh⟩ : ∃ h : Nat, (lo + hi) / 2 = h := ⟨_, rfl⟩
      have hhI : ((lo : Int) + (hi : Int)) / 2 = (h : Int) := by omega
      have hb1 : lo ≤ h ∧ h < hi := by omega
      cases hlv : ltOf cf d[h]! d[a]!
      · have I2 : Aside ((m < lo → ltOf cf d[lo - 1]! d[a]! = true) ∧ (h < b → ltOf cf d[h]! d[a]! = false)) := ⟨I.out.1, fun _ => hlv⟩
        clear I hh
        obtain ⟨iN1, hiN1⟩ : ∃ q, q = h := ⟨_, rfl⟩
        obtain ⟨jN1, hjN1⟩ : ∃ q, q = a := ⟨_, rfl⟩
        have ea1 : ((h : Int)).toNat = iN1 := by omega
        have pa1 : (0 : Int) ≤ (h : Int) := by omega
        have ba1 : (h : Int) < (N : Int) := by omega
        have ra1 : IntKind.i64.wrap ((h : Int)) = (h : Int) := by rw [IntKind.wrap_i64]; omega
        have ec1 : ((a : Int)).toNat = jN1 := by omega
        have pc1 : (0 : Int) ≤ (a : Int) := by omega
        have bc1 : (a : Int) < (N : Int) := by omega
        have rc1 : IntKind.i64.wrap ((a : Int)) = (a : Int) := by rw [IntKind.wrap_i64]; omega
        obtain ⟨x1, hx1⟩ : ∃ x, x = d[h]! := ⟨_, rfl⟩
        obtain ⟨y1, hy1⟩ : ∃ x, x = d[a]! := ⟨_, rfl⟩
        have l1a := S1.out.cl R (by omega) (h) (by omega)
        have l1b := S1.out.cl R (by omega) (a) (by omega)
        rw [← hx1, ← hiN1] at l1a
        rw [← hy1, ← hjN1] at l1b
        have hc1 := S1.out.cmp HC.out (by omega) x1 y1
        have hv1 : ¬ cf x1 y1 < 0 := by rw [hx1, hy1]; exact of_decide_eq_false hlv
        have hd1 : decide (cf x1 y1 < 0) = false := decide_eq_false hv1
        clear hlv
        clear hx1 hy1 hiN1 hjN1
        go_wp2_with fail
        go_quiet_grown (first | (go_at_fn g; refine Calls.grown_of (hc1 _ _)))
        have S2 : Aside (SW enc w0 blk off d (grow (wr.drewN nq) osq)) := S1.out.grown nq osq
        clear l1a l1b hc1 S1
        generalize grow (wr.drewN nq) osq = w2 at S2 ⊢
        clear nq osq
        clear ea1 ec1
        go_wp2
        go_roundg (h - lo)
        case measure => omega
        case rel => exact ⟨lo, h, rfl, rfl, hlo, by omega, by omega, Nat.le_refl _, S2, I2⟩
      · have I2 : Aside ((m < h + 1 → ltOf cf d[h + 1 - 1]! d[a]! = true) ∧ (hi < b → ltOf cf d[hi]! d[a]! = false)) := ⟨fun _ => hlv, I.out.2⟩
        clear I hh
        obtain ⟨iN2, hiN2⟩ : ∃ q, q = h := ⟨_, rfl⟩
        obtain ⟨jN2, hjN2⟩ : ∃ q, q = a := ⟨_, rfl⟩
        have ea2 : ((h : Int)).toNat = iN2 := by omega
        have pa2 : (0 : Int) ≤ (h : Int) := by omega
        have ba2 : (h : Int) < (N : Int) := by omega
        have ra2 : IntKind.i64.wrap ((h : Int)) = (h : Int) := by rw [IntKind.wrap_i64]; omega
        have ec2 : ((a : Int)).toNat = jN2 := by omega
        have pc2 : (0 : Int) ≤ (a : Int) := by omega
        have bc2 : (a : Int) < (N : Int) := by omega
        have rc2 : IntKind.i64.wrap ((a : Int)) = (a : Int) := by rw [IntKind.wrap_i64]; omega
        obtain ⟨x2, hx2⟩ : ∃ x, x = d[h]! := ⟨_, rfl⟩
        obtain ⟨y2, hy2⟩ : ∃ x, x = d[a]! := ⟨_, rfl⟩
        have l2a := S1.out.cl R (by omega) (h) (by omega)
        have l2b := S1.out.cl R (by omega) (a) (by omega)
        rw [← hx2, ← hiN2] at l2a
        rw [← hy2, ← hjN2] at l2b
        have hc2 := S1.out.cmp HC.out (by omega) x2 y2
        have hv2 : cf x2 y2 < 0 := by rw [hx2, hy2]; exact of_decide_eq_true hlv
        have hd2 : decide (cf x2 y2 < 0) = true := decide_eq_true hv2
        clear hlv
        clear hx2 hy2 hiN2 hjN2
        go_wp2_with fail
        go_quiet_grown (first | (go_at_fn g; refine Calls.grown_of (hc2 _ _)))
        have S2 : Aside (SW enc w0 blk off d (grow (wr.drewN nq) osq)) := S1.out.grown nq osq
        clear l2a l2b hc2 S1
        generalize grow (wr.drewN nq) osq = w2 at S2 ⊢
        clear nq osq
        clear ea2 ec2
        go_wp2
        go_roundg (hi - (h + 1))
        case measure => omega
        case rel => exact ⟨h + 1, hi, by go_num, rfl, by omega, by omega, by omega, Nat.le_refl _, S2, I2⟩
    · obtain rfl : hi = lo := by omega
      go_wp2
      go_loopg [13] b (fun kx s13 wr => ∃ (k : Nat) (dk : Array α), s13 = .int .i64 k ∧ a ≤ k ∧ k ≤ hi - 1 ∧ hi - 1 - k ≤ kx ∧ dk.size = N ∧ Aside (SW enc w0 blk off dk wr) ∧ Aside (∀ x, dk[x]! = rotF (fun i => d[i]!) a (a + 1) (k + 1) x))
      case atStart => exact ⟨a, d, rfl, by omega, by omega, by omega, hs, S1, (fun x => rot_none (fun i => d[i]!) (a := a) (m := a + 1) (b := a + 1) (by omega) (by omega) (.inr rfl) x : ∀ x, d[x]! = rotF (fun i => d[i]!) a (a + 1) (a + 1) x)⟩
      case round =>
        clear S1
        obtain ⟨k, dk, rfl, hak, hkl, hkx2, hds, S1, X⟩ := hrel
        by_cases hlt2 : k < hi - 1
        · have hltz : (k : Int) < (hi : Int) - 1 := by omega
          have X2 : Aside (∀ x, (swp dk k (k + 1))[x]! = rotF (fun i => d[i]!) a (a + 1) (k + 1 + 1) x) := rot_up X.out hak (by omega)
          clear X
          go_wp2_with fail
          obtain ⟨iN3, hiN3⟩ : ∃ q, q = k := ⟨_, rfl⟩
          obtain ⟨jN3, hjN3⟩ : ∃ q, q = k + 1 := ⟨_, rfl⟩
          have ea3 : ((k : Int)).toNat = iN3 := by omega
          have pa3 : (0 : Int) ≤ (k : Int) := by omega
          have ba3 : (k : Int) < (N : Int) := by omega
          have ra3 : IntKind.i64.wrap ((k : Int)) = (k : Int) := by rw [IntKind.wrap_i64]; omega
          have ec3 : ((k : Int) + 1).toNat = jN3 := by omega
          have pc3 : (0 : Int) ≤ (k : Int) + 1 := by omega
          have bc3 : (k : Int) + 1 < (N : Int) := by omega
          have rc3 : IntKind.i64.wrap ((k : Int) + 1) = (k : Int) + 1 := by rw [IntKind.wrap_i64]; omega
          obtain ⟨x3, hx3⟩ : ∃ x, x = dk[k]! := ⟨_, rfl⟩
          obtain ⟨y3, hy3⟩ : ∃ x, x = dk[k + 1]! := ⟨_, rfl⟩
          have S2 : Aside (SW enc w0 blk off (swp dk (k) (k + 1)) ((wr.setCell ⟨blk, off + iN3, none⟩ (enc y3)).setCell ⟨blk, off + jN3, none⟩ (enc x3)).drew) := by rw [hiN3, hjN3, hx3, hy3]; exact S1.out.swapped R (k) (k + 1) (by omega) (by omega)
          have c3a := S1.out.c1 R (by omega) (k) (by omega)
          have c3b := S1.out.c1 R (by omega) (k + 1) (by omega)
          have f3a := S1.out.f1 R (by omega) (k) (by omega)
          have f3b := S1.out.f1 R (by omega) (k + 1) (by omega)
          obtain ⟨u3, c3c⟩ := S1.out.c2 R (by omega) (k) (k + 1) (by omega) (by omega) (enc y3)
          rw [← hjN3, ← hiN3] at c3c
          rw [← hx3, ← hiN3] at c3a
          rw [← hy3, ← hjN3] at c3b
          rw [← hiN3] at f3a
          rw [← hjN3] at f3b
          clear S1 hx3 hy3 hiN3 hjN3
          go_wp2_with fail
          go_big_region_o
          clear c3a c3b c3c f3a f3b
          generalize ((wr.setCell ⟨blk, off + iN3, none⟩ (enc y3)).setCell ⟨blk, off + jN3, none⟩ (enc x3)).drew = w2 at S2 ⊢
          clear ea3 ec3
          go_wp2
          go_roundg (hi - 1 - (k + 1))
          case measure => omega
          case rel => exact ⟨k + 1, swp dk k (k + 1), by go_num, by omega, by omega, Nat.le_refl _, by rw [size_swp]; exact hds, S2, X2⟩
        · obtain ⟨k2, rfl⟩ : ∃ k2, hi = k2 + 1 := ⟨hi - 1, by omega⟩
          obtain rfl : k = k2 := by omega
          have hltz : ¬ (k : Int) < ((k + 1 : Nat) : Int) - 1 := by omega
          go_wp2
          go_end0
          have hX : ∀ x, dk[x]! = rotF (fun i => d[i]!) a m (k + 1) x := by rw [HO.out]; exact X.out
          refine ⟨rfl, dk, (rot_mv (by omega) (by omega) (by omega) hX).mono (Nat.le_refl _) hhi, ?_, S1.out⟩
          exact HM.out.one_left HH.out HO.out ⟨hlo, hhi⟩ (by omega) hX (fun h => I.out.1 h) I.out.2
set_option maxHeartbeats 8000000 in
set_option maxRecDepth 1000000 in
theorem sym_right (enc : α → Value) (cf : α → α → Int) (bt : α → α → Prop) (pos : α → Nat) (H : OrdS bt (ltOf cf) pos) (g : Nat) (cb : Array Value) (blk off cap a m b N : Nat) (aI mI bI : Int) (ha : aI = (a : Int)) (hm : mI = (m : Int)) (hb : bI = (b : Int)) (d0 d : Array α) (w0 w : World)
    (eg : ∀ args w, (callFunc g args).run Try.prog w = .ok (.enter g args) w) (hcmp : CmpLays1 Try.prog g cb enc cf blk off d0.size w0) (R : Row1 enc w0 blk off d0) (hN : d0.size = N) (hsz : N < 1152921504606846976) (hs : d.size = N) (S : SW enc w0 blk off d w) (M : MrgI bt pos a m b d) (h1 : a < m) (h2 : m < b) (h3 : b ≤ N) (hone : b = m + 1) (hnot : ¬ m = a + 1) :
    Calls Try.prog 19 #[.slice (some ⟨blk, off, none⟩) N cap, .int .i64 aI, .int .i64 mI, .int .i64 bI, .func (.func g) #[] cb] w (SymR enc bt blk off w0 a b d) := by
  subst ha hm hb
  have hcl0 := R.hO.cells
  simp only [Value.cells] at hcl0
  have hst := R.hO.store Try.prog
  have mixed : Try.prog.follows Departure.mixedOrders = true := by kernel_rfl
  have S0 : Aside (SW enc w0 blk off d w) := S
  have HC : Aside _ := hcmp
  have HM : Aside _ := M
  have HH : Aside _ := H
  clear S hcmp M H
  have HO : Aside (b = m + 1) := hone
  have z0 : ((m : Int) - (a : Int) == 1) = false := by rw [beq_eq_false_iff_ne]; omega
  have z1 : ((b : Int) - (m : Int) == 1) = true := by rw [beq_iff_eq]; omega
  clear hone hnot
  go_enter Try.func19, Try.ntmps19
  go_wp2
  go_loopg [14, 15] b (fun kx s10 s11 wr => ∃ lo hi : Nat, s10 = .int .i64 lo ∧ s11 = .int .i64 hi ∧ a ≤ lo ∧ lo ≤ hi ∧ hi ≤ m ∧ hi - lo ≤ kx ∧ Aside (SW enc w0 blk off d wr) ∧ Aside ((a < lo → ltOf cf d[m]! d[lo - 1]! = false) ∧ (hi < m → ltOf cf d[m]! d[hi]! = true)))
  case atStart => exact ⟨a, m, rfl, rfl, by omega, by omega, by omega, by omega, S0, (⟨fun h => by omega, fun h => by omega⟩ : (a < a → ltOf cf d[m]! d[a - 1]! = false) ∧ (m < m → ltOf cf d[m]! d[m]! = true))⟩
  case round =>
    clear S0
    obtain ⟨lo, hi, rfl, rfl, hlo, hlh, hhi, hkx, S1, I⟩ := hrel
    by_cases hlt : lo < hi
    · have hltz : (lo : Int) < (hi : Int) := by omega
      obtain ⟨h, hh⟩ : ∃ h : Nat, (lo + hi) / 2 = h := ⟨_, rfl⟩
      have hhI : ((lo : Int) + (hi : Int)) / 2 = (h : Int) := by omega
      have hb1 : lo ≤ h ∧ h < hi := by omega
      cases hlv : ltOf cf d[m]! d[h]!
      · have I2 : Aside ((a < h + 1 → ltOf cf d[m]! d[h + 1 - 1]! = false) ∧ (hi < m → ltOf cf d[m]! d[hi]! = true)) := ⟨fun _ => hlv, I.out.2⟩
        clear I hh
        obtain ⟨iN1, hiN1⟩ : ∃ q, q = m := ⟨_, rfl⟩
        obtain ⟨jN1, hjN1⟩ : ∃ q, q = h := ⟨_, rfl⟩
        have ea1 : ((m : Int)).toNat = iN1 := by omega
        have pa1 : (0 : Int) ≤ (m : Int) := by omega
        have ba1 : (m : Int) < (N : Int) := by omega
        have ra1 : IntKind.i64.wrap ((m : Int)) = (m : Int) := by rw [IntKind.wrap_i64]; omega
        have ec1 : ((h : Int)).toNat = jN1 := by omega
        have pc1 : (0 : Int) ≤ (h : Int) := by omega
        have bc1 : (h : Int) < (N : Int) := by omega
        have rc1 : IntKind.i64.wrap ((h : Int)) = (h : Int) := by rw [IntKind.wrap_i64]; omega
        obtain ⟨x1, hx1⟩ : ∃ x, x = d[m]! := ⟨_, rfl⟩
        obtain ⟨y1, hy1⟩ : ∃ x, x = d[h]! := ⟨_, rfl⟩
        have l1a := S1.out.cl R (by omega) (m) (by omega)
        have l1b := S1.out.cl R (by omega) (h) (by omega)
        rw [← hx1, ← hiN1] at l1a
        rw [← hy1, ← hjN1] at l1b
        have hc1 := S1.out.cmp HC.out (by omega) x1 y1
        have hv1 : ¬ cf x1 y1 < 0 := by rw [hx1, hy1]; exact of_decide_eq_false hlv
        have hd1 : decide (cf x1 y1 < 0) = false := decide_eq_false hv1
        clear hlv
        clear hx1 hy1 hiN1 hjN1
        go_wp2_with fail
        go_quiet_grown (first | (go_at_fn g; refine Calls.grown_of (hc1 _ _)))
        have S2 : Aside (SW enc w0 blk off d (grow (wr.drewN nq) osq)) := S1.out.grown nq osq
        clear l1a l1b hc1 S1
        generalize grow (wr.drewN nq) osq = w2 at S2 ⊢
        clear nq osq
        clear ea1 ec1
        go_wp2
        go_roundg (hi - (h + 1))
        case measure => omega
        case rel => exact ⟨h + 1, hi, by go_num, rfl, by omega, by omega, by omega, Nat.le_refl _, S2, I2⟩
      · have I2 : Aside ((a < lo → ltOf cf d[m]! d[lo - 1]! = false) ∧ (h < m → ltOf cf d[m]! d[h]! = true)) := ⟨I.out.1, fun _ => hlv⟩
        clear I hh
        obtain ⟨iN2, hiN2⟩ : ∃ q, q = m := ⟨_, rfl⟩
        obtain ⟨jN2, hjN2⟩ : ∃ q, q = h := ⟨_, rfl⟩
        have ea2 : ((m : Int)).toNat = iN2 := by omega
        have pa2 : (0 : Int) ≤ (m : Int) := by omega
        have ba2 : (m : Int) < (N : Int) := by omega
        have ra2 : IntKind.i64.wrap ((m : Int)) = (m : Int) := by rw [IntKind.wrap_i64]; omega
        have ec2 : ((h : Int)).toNat = jN2 := by omega
        have pc2 : (0 : Int) ≤ (h : Int) := by omega
        have bc2 : (h : Int) < (N : Int) := by omega
        have rc2 : IntKind.i64.wrap ((h : Int)) = (h : Int) := by rw [IntKind.wrap_i64]; omega
        obtain ⟨x2, hx2⟩ : ∃ x, x = d[m]! := ⟨_, rfl⟩
        obtain ⟨y2, hy2⟩ : ∃ x, x = d[h]! := ⟨_, rfl⟩
        have l2a := S1.out.cl R (by omega) (m) (by omega)
        have l2b := S1.out.cl R (by omega) (h) (by omega)
        rw [← hx2, ← hiN2] at l2a
        rw [← hy2, ← hjN2] at l2b
        have hc2 := S1.out.cmp HC.out (by omega) x2 y2
        have hv2 : cf x2 y2 < 0 := by rw [hx2, hy2]; exact of_decide_eq_true hlv
        have hd2 : decide (cf x2 y2 < 0) = true := decide_eq_true hv2
        clear hlv
        clear hx2 hy2 hiN2 hjN2
        go_wp2_with fail
        go_quiet_grown (first | (go_at_fn g; refine Calls.grown_of (hc2 _ _)))
        have S2 : Aside (SW enc w0 blk off d (grow (wr.drewN nq) osq)) := S1.out.grown nq osq
        clear l2a l2b hc2 S1
        generalize grow (wr.drewN nq) osq = w2 at S2 ⊢
        clear nq osq
        clear ea2 ec2
        go_wp2
        go_roundg (h - lo)
        case measure => omega
        case rel => exact ⟨lo, h, rfl, rfl, hlo, by omega, by omega, Nat.le_refl _, S2, I2⟩
    · obtain rfl : hi = lo := by omega
      go_wp2
      go_loopg [17] b (fun kx s13 wr => ∃ (k : Nat) (dk : Array α), s13 = .int .i64 k ∧ hi ≤ k ∧ k ≤ m ∧ k - hi ≤ kx ∧ dk.size = N ∧ Aside (SW enc w0 blk off dk wr) ∧ Aside (∀ x, dk[x]! = rotF (fun i => d[i]!) k m (m + 1) x))
      case atStart => exact ⟨m, d, rfl, by omega, by omega, by omega, hs, S1, (fun x => rot_none (fun i => d[i]!) (a := m) (m := m) (b := m + 1) (by omega) (by omega) (.inl rfl) x : ∀ x, d[x]! = rotF (fun i => d[i]!) m m (m + 1) x)⟩
      case round =>
        clear S1
        obtain ⟨k, dk, rfl, hak, hkl, hkx2, hds, S1, X⟩ := hrel
        by_cases hlt2 : hi < k
        · obtain ⟨k, rfl⟩ : ∃ k2, k = k2 + 1 := ⟨k - 1, by omega⟩
          have hltz : (hi : Int) < (k : Int) + 1 := by omega
          have X2 : Aside (∀ x, (swp dk (k + 1) k)[x]! = rotF (fun i => d[i]!) k m (m + 1) x) := rot_down X.out hkl (by omega)
          clear X
          rw [show ((k + 1 : Nat) : Int) = (k : Int) + 1 by omega]
          go_wp2_with fail
          obtain ⟨iN3, hiN3⟩ : ∃ q, q = k + 1 := ⟨_, rfl⟩
          obtain ⟨jN3, hjN3⟩ : ∃ q, q = k := ⟨_, rfl⟩
          have ea3 : ((k : Int) + 1).toNat = iN3 := by omega
          have pa3 : (0 : Int) ≤ (k : Int) + 1 := by omega
          have ba3 : (k : Int) + 1 < (N : Int) := by omega
          have ra3 : IntKind.i64.wrap ((k : Int) + 1) = (k : Int) + 1 := by rw [IntKind.wrap_i64]; omega
          have ec3 : ((k : Int)).toNat = jN3 := by omega
          have pc3 : (0 : Int) ≤ (k : Int) := by omega
          have bc3 : (k : Int) < (N : Int) := by omega
          have rc3 : IntKind.i64.wrap ((k : Int)) = (k : Int) := by rw [IntKind.wrap_i64]; omega
          obtain ⟨x3, hx3⟩ : ∃ x, x = dk[k + 1]! := ⟨_, rfl⟩
          obtain ⟨y3, hy3⟩ : ∃ x, x = dk[k]! := ⟨_, rfl⟩
          have S2 : Aside (SW enc w0 blk off (swp dk (k + 1) (k)) ((wr.setCell ⟨blk, off + iN3, none⟩ (enc y3)).setCell ⟨blk, off + jN3, none⟩ (enc x3)).drew) := by rw [hiN3, hjN3, hx3, hy3]; exact S1.out.swapped R (k + 1) (k) (by omega) (by omega)
          have c3a := S1.out.c1 R (by omega) (k + 1) (by omega)
          have c3b := S1.out.c1 R (by omega) (k) (by omega)
          have f3a := S1.out.f1 R (by omega) (k + 1) (by omega)
          have f3b := S1.out.f1 R (by omega) (k) (by omega)
          obtain ⟨u3, c3c⟩ := S1.out.c2 R (by omega) (k + 1) (k) (by omega) (by omega) (enc y3)
          rw [← hiN3, ← hjN3] at c3c
          rw [← hx3, ← hiN3] at c3a
          rw [← hy3, ← hjN3] at c3b
          rw [← hiN3] at f3a
          rw [← hjN3] at f3b
          clear S1 hx3 hy3 hiN3 hjN3
          go_wp2_with fail
          go_big_region_o
          clear c3a c3b c3c f3a f3b
          generalize ((wr.setCell ⟨blk, off + iN3, none⟩ (enc y3)).setCell ⟨blk, off + jN3, none⟩ (enc x3)).drew = w2 at S2 ⊢
          clear ea3 ec3
          go_wp2
          go_roundg (k - hi)
          case measure => omega
          case rel => exact ⟨k, swp dk (k + 1) k, by go_num, by omega, by omega, Nat.le_refl _, by rw [size_swp]; exact hds, S2, X2⟩
        · obtain rfl : k = hi := by omega
          go_wp2
          go_end0
          have hX : ∀ x, dk[x]! = rotF (fun i => d[i]!) k m b x := by rw [HO.out]; exact X.out
          refine ⟨rfl, dk, (rot_mv (by omega) (by omega) (by omega) hX).mono (by omega) (Nat.le_refl _), ?_, S1.out⟩
          exact HM.out.one_right HH.out HO.out ⟨hlo, hhi⟩ (by omega) hX I.out.1 I.out.2
end
end Go.Proofs.Ytalnfbgaiegicaa

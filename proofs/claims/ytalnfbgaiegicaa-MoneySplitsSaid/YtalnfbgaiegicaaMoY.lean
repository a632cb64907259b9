/- Layer 7: walks of the library's stable sort: two sorted parts merged in place, whatever their lengths. -/
import Derived.Test.YtalnfbgaiegicaaMoX
namespace Go.Proofs.Ytalnfbgaiegicaa
open Go Go.Shelf Go.RowKit Go.Lib Go.Sort Go.Proofs

section
variable {α : Type} [Inhabited α]
/-- symMerge does so for parts shorter than K. -/
def SymOK (enc : α → Value) (bt : α → α → Prop) (pos : α → Nat) (g : Nat) (cb : Array Value) (blk off cap N : Nat) (w0 : World) (K : Nat) : Prop :=
  ∀ (a m b : Nat) (aI mI bI : Int) (d : Array α) (w : World), aI = (a : Int) → mI = (m : Int) → bI = (b : Int) → b - a < K → a < m → m < b → b ≤ N → d.size = N → MrgI bt pos a m b d → SW enc w0 blk off d w →
    Calls Try.prog 19 #[.slice (some ⟨blk, off, none⟩) N cap, .int .i64 aI, .int .i64 mI, .int .i64 bI, .func (.func g) #[] cb] w (SymR enc bt blk off w0 a b d)
def RotOK (enc : α → Value) (g : Nat) (cb : Array Value) (blk off cap N : Nat) (w0 : World) : Prop :=
  ∀ (a m b : Nat) (aI mI bI : Int) (d : Array α) (w : World), aI = (a : Int) → mI = (m : Int) → bI = (b : Int) → a < m → m < b → b ≤ N → d.size = N → SW enc w0 blk off d w →
    Calls Try.prog 20 #[.slice (some ⟨blk, off, none⟩) N cap, .int .i64 aI, .int .i64 mI, .int .i64 bI, .func (.func g) #[] cb] w fun e w' => e = .returned (.tuple #[]) ∧ ∃ d' : Array α, d'.size = N ∧ (∀ x, d'[x]! = rotF (fun i => d[i]!) a m b x) ∧ SW enc w0 blk off d' w'
theorem rotOK_any (enc : α → Value) (g : Nat) (cb : Array Value) (blk off cap N : Nat) (d0 : Array α) (w0 : World) (R : Row1 enc w0 blk off d0) (hN : d0.size = N) (hsz : N < 1152921504606846976) : RotOK enc g cb blk off cap N w0 := fun a m b aI mI bI d w ha hm hb h1 h2 h3 hs S => by
  have := rotate_any enc g cb blk off cap a m b aI mI bI ha hm hb d0 d w0 w R (by omega) S h1 h2 (by omega) (by omega)
  rw [hs] at this
  exact this
theorem MrgI.congr {bt : α → α → Prop} {pos : α → Nat} {a m b : Nat} {d d' : Array α} (M : MrgI bt pos a m b d) (hs : d'.size = d.size) (h : ∀ i, a ≤ i → d'[i]! = d[i]!) : MrgI bt pos a m b d' := by
  have hl := M.le
  refine ⟨⟨hl.1, hl.2.1, by omega⟩, M.l.congr (fun i i1 _ => h i i1), M.r.congr (fun i i1 _ => h i (by omega)), fun i j i1 i2 i3 i4 => ?_⟩
  rw [h i i1, h j (by omega)]
  exact M.c i j i1 i2 i3 i4
set_option maxHeartbeats 8000000 in
set_option maxRecDepth 1000000 in
theorem sym_gen (enc : α → Value) (cf : α → α → Int) (bt : α → α → Prop) (pos : α → Nat) (H : OrdS bt (ltOf cf) pos) (g : Nat) (cb : Array Value) (blk off cap a m b N : Nat) (aI mI bI : Int) (ha : aI = (a : Int)) (hm : mI = (m : Int)) (hb : bI = (b : Int)) (d0 d : Array α) (w0 w : World)
    (eg : ∀ args w, (callFunc g args).run Try.prog w = .ok (.enter g args) w) (hcmp : CmpLays1 Try.prog g cb enc cf blk off d0.size w0) (R : Row1 enc w0 blk off d0) (hN : d0.size = N) (hsz : N < 1152921504606846976) (hs : d.size = N) (S : SW enc w0 blk off d w) (M : MrgI bt pos a m b d) (h1 : a < m) (h2 : m < b) (h3 : b ≤ N) (hnot : ¬ m = a + 1) (hnot2 : ¬ b = m + 1) (K : Nat) (hK : b - a ≤ K) (IH : SymOK enc bt pos g cb blk off cap N w0 K) :
    Calls Try.prog 19 #[.slice (some ⟨blk, off, none⟩) N cap, .int .i64 aI, .int .i64 mI, .int .i64 bI, .func (.func g) #[] cb] w (SymR enc bt blk off w0 a b d) := by
  subst ha hm hb
  have hcl0 := R.hO.cells
  simp only [Value.cells] at hcl0
  have hst := R.hO.store Try.prog
  have mixed : Try.prog.follows Departure.mixedOrders = true := by kernel_rfl
  have S0 : Aside (SW enc w0 blk off d w) := S
  have HC : Aside _ := hcmp
  have HM : Aside _ := M
  have HH : Aside _ := H
  clear S hcmp M H
  have HI : Aside _ := IH
  have HR : Aside _ := rotOK_any enc g cb blk off cap N d0 w0 R hN hsz
  have HD : Aside (d.size = N) := hs
  have z0 : ((m : Int) - (a : Int) == 1) = false := by rw [beq_eq_false_iff_ne]; omega
  have z1 : ((b : Int) - (m : Int) == 1) = false := by rw [beq_eq_false_iff_ne]; omega
  obtain ⟨md, hmd⟩ : ∃ md : Nat, (a + b) / 2 = md := ⟨_, rfl⟩
  have hmdI : ((a : Int) + (b : Int)) / 2 = (md : Int) := by omega
  obtain ⟨n, hn⟩ : ∃ n : Nat, md + m = n := ⟨_, rfl⟩
  have hnI : (md : Int) + (m : Int) = (n : Int) := by omega
  obtain ⟨p, hp⟩ : ∃ p : Nat, n - 1 = p := ⟨_, rfl⟩
  have hpI : (n : Int) - 1 = (p : Int) := by omega
  have hmd1 : a < md ∧ md < b := by omega
  have HN : Aside (md + m = n ∧ n - 1 = p ∧ (a + b) / 2 = md) := ⟨hn, hp, hmd⟩
  clear IH hnot hnot2 hn hp hmd
  by_cases hmm : md < m
  · have zc : (md : Int) < (m : Int) := by omega
    obtain ⟨lo0, hlo0⟩ : ∃ l : Nat, n - b = l := ⟨_, rfl⟩
    obtain ⟨hi0, hhi0⟩ : ∃ l : Nat, md = l := ⟨_, rfl⟩
    have hloI : (n : Int) - (b : Int) = (lo0 : Int) := by have := HN.out; omega
    have hb0 : a ≤ lo0 ∧ lo0 ≤ hi0 ∧ hi0 ≤ m ∧ n ≤ lo0 + b ∧ hi0 + m ≤ n := by have := HN.out; omega
    have hend : lo0 + b = n ∧ hi0 + m = n := by have := HN.out; omega
    have st0 : Aside (hi0 = md) := hhi0.symm
    clear hlo0 hhi0
    have HE : Aside _ := hend
    clear hend
    go_enter Try.func19, Try.ntmps19
    go_wp2
    go_loopg [20, 21] N (fun kx s10 s11 wr => ∃ st r : Nat, s10 = .int .i64 st ∧ s11 = .int .i64 r ∧ lo0 ≤ st ∧ st ≤ r ∧ r ≤ hi0 ∧ r - st ≤ kx ∧ Aside (SW enc w0 blk off d wr) ∧ Aside ((lo0 < st → ltOf cf d[p - (st - 1)]! d[st - 1]! = false) ∧ (r < hi0 → ltOf cf d[p - r]! d[r]! = true)))
    case atStart => exact ⟨lo0, hi0, rfl, by rw [st0.out], by omega, by omega, by omega, by omega, S0, (⟨fun h => by omega, fun h => by omega⟩ : (lo0 < lo0 → ltOf cf d[p - (lo0 - 1)]! d[lo0 - 1]! = false) ∧ (hi0 < hi0 → ltOf cf d[p - hi0]! d[hi0]! = true))⟩
    case round =>
      clear S0
      obtain ⟨st, r, rfl, rfl, hlo, hlh, hhi, hkx, S1, I⟩ := hrel
      by_cases hlt : st < r
      · have hltz : (st : Int) < (r : Int) := by omega
        obtain ⟨c, hc⟩ : ∃ c : Nat, (st + r) / 2 = c := ⟨_, rfl⟩
        have hcI : ((st : Int) + (r : Int)) / 2 = (c : Int) := by omega
        have hb1 : st ≤ c ∧ c < r := by omega
        obtain ⟨pq, hpq⟩ : ∃ z : Nat, p - c = z := ⟨_, rfl⟩
        have hqI : (p : Int) - (c : Int) = (pq : Int) := by have := HN.out; omega
        have hqN : pq < N ∧ c < N := by have := HN.out; have := HE.out; omega
        have HQ : Aside (p - c = pq) := hpq
        cases hlv : ltOf cf d[pq]! d[c]!
        · have I2 : Aside ((lo0 < c + 1 → ltOf cf d[p - (c + 1 - 1)]! d[c + 1 - 1]! = false) ∧ (r < hi0 → ltOf cf d[p - r]! d[r]! = true)) := ⟨fun _ => by rw [show c + 1 - 1 = c by omega, HQ.out]; exact hlv, I.out.2⟩
          clear I hc hpq HQ
          obtain ⟨iN1, hiN1⟩ : ∃ q, q = pq := ⟨_, rfl⟩
          obtain ⟨jN1, hjN1⟩ : ∃ q, q = c := ⟨_, rfl⟩
          have ea1 : ((pq : Int)).toNat = iN1 := by omega
          have pa1 : (0 : Int) ≤ (pq : Int) := by omega
          have ba1 : (pq : Int) < (N : Int) := by omega
          have ra1 : IntKind.i64.wrap ((pq : Int)) = (pq : Int) := by rw [IntKind.wrap_i64]; omega
          have ec1 : ((c : Int)).toNat = jN1 := by omega
          have pc1 : (0 : Int) ≤ (c : Int) := by omega
          have bc1 : (c : Int) < (N : Int) := by omega
          have rc1 : IntKind.i64.wrap ((c : Int)) = (c : Int) := by rw [IntKind.wrap_i64]; omega
          obtain ⟨x1, hx1⟩ : ∃ x, x = d[pq]! := ⟨_, rfl⟩
          obtain ⟨y1, hy1⟩ : ∃ x, x = d[c]! := ⟨_, rfl⟩
          have l1a := S1.out.cl R (by omega) (pq) (by omega)
          have l1b := S1.out.cl R (by omega) (c) (by omega)
          rw [← hx1, ← hiN1] at l1a
          rw [← hy1, ← hjN1] at l1b
          have hc1 := S1.out.cmp HC.out (by omega) x1 y1
          have hv1 : ¬ cf x1 y1 < 0 := by rw [hx1, hy1]; exact of_decide_eq_false hlv
          have hd1 : decide (cf x1 y1 < 0) = false := decide_eq_false hv1
          clear hlv
          clear hx1 hy1 hiN1 hjN1
          go_wp2_with fail
          go_quiet_grown (first | (go_at_fn g; refine Calls.grown_of (hc1 _ _)))
          have S2 : Aside (SW enc w0 blk off d (grow (wr.drewN nq) osq)) := S1.out.grown nq osq
          clear l1a l1b hc1 S1
          generalize grow (wr.drewN nq) osq = w2 at S2 ⊢
          clear nq osq
          clear ea1 ec1
          go_wp2
          go_roundg (r - (c + 1))
          case measure => omega
          case rel => exact ⟨c + 1, r, by go_num, rfl, by omega, by omega, by omega, Nat.le_refl _, S2, I2⟩
        · have I2 : Aside ((lo0 < st → ltOf cf d[p - (st - 1)]! d[st - 1]! = false) ∧ (c < hi0 → ltOf cf d[p - c]! d[c]! = true)) := ⟨I.out.1, fun _ => by rw [HQ.out]; exact hlv⟩
          clear I hc hpq HQ
          obtain ⟨iN2, hiN2⟩ : ∃ q, q = pq := ⟨_, rfl⟩
          obtain ⟨jN2, hjN2⟩ : ∃ q, q = c := ⟨_, rfl⟩
          have ea2 : ((pq : Int)).toNat = iN2 := by omega
          have pa2 : (0 : Int) ≤ (pq : Int) := by omega
          have ba2 : (pq : Int) < (N : Int) := by omega
          have ra2 : IntKind.i64.wrap ((pq : Int)) = (pq : Int) := by rw [IntKind.wrap_i64]; omega
          have ec2 : ((c : Int)).toNat = jN2 := by omega
          have pc2 : (0 : Int) ≤ (c : Int) := by omega
          have bc2 : (c : Int) < (N : Int) := by omega
          have rc2 : IntKind.i64.wrap ((c : Int)) = (c : Int) := by rw [IntKind.wrap_i64]; omega
          obtain ⟨x2, hx2⟩ : ∃ x, x = d[pq]! := ⟨_, rfl⟩
          obtain ⟨y2, hy2⟩ : ∃ x, x = d[c]! := ⟨_, rfl⟩
          have l2a := S1.out.cl R (by omega) (pq) (by omega)
          have l2b := S1.out.cl R (by omega) (c) (by omega)
          rw [← hx2, ← hiN2] at l2a
          rw [← hy2, ← hjN2] at l2b
          have hc2 := S1.out.cmp HC.out (by omega) x2 y2
          have hv2 : cf x2 y2 < 0 := by rw [hx2, hy2]; exact of_decide_eq_true hlv
          have hd2 : decide (cf x2 y2 < 0) = true := decide_eq_true hv2
          clear hlv
          clear hx2 hy2 hiN2 hjN2
          go_wp2_with fail
          go_quiet_grown (first | (go_at_fn g; refine Calls.grown_of (hc2 _ _)))
          have S2 : Aside (SW enc w0 blk off d (grow (wr.drewN nq) osq)) := S1.out.grown nq osq
          clear l2a l2b hc2 S1
          generalize grow (wr.drewN nq) osq = w2 at S2 ⊢
          clear nq osq
          clear ea2 ec2
          go_wp2
          go_roundg (c - st)
          case measure => omega
          case rel => exact ⟨st, c, rfl, rfl, hlo, by omega, by omega, Nat.le_refl _, S2, I2⟩
      · obtain rfl : r = st := by omega
        obtain ⟨st, hst⟩ : ∃ s : Nat, r = s := ⟨_, rfl⟩
        subst hst
        obtain ⟨st, hst⟩ : ∃ s : Nat, s = r := ⟨_, rfl⟩
        subst hst
        have hEE : Aside _ := HE
        have hz := HE.out
        have hz2 := HN.out
        obtain ⟨en, hen⟩ : ∃ en : Nat, n - st = en := ⟨_, rfl⟩
        have henI : (n : Int) - (st : Int) = (en : Int) := by omega
        have hE : a ≤ st ∧ st ≤ m ∧ m ≤ en ∧ en ≤ b ∧ st + (en - m) = md ∧ st + en = n := by have := HN.out; omega
        have FND : Aside _ := HM.out.found HH.out (n := n) (st := st) (en := en) (by omega) ⟨by omega, by omega⟩ ⟨by omega, by omega⟩ (fun i1 i2 => by have := I.out.1 (by omega); rw [show n - 1 - (st - 1) = p - (st - 1) by have := HN.out; omega]; exact this) (fun i1 i2 => by have := I.out.2 (by omega); rw [show n - 1 - st = p - st by have := HN.out; omega]; exact this)
        clear I hen
        by_cases s1 : (st : Int) < (m : Int)
        · by_cases s2 : (m : Int) < (en : Int)
          · by_cases r1 : (a : Int) < (st : Int)
            · by_cases r2 : (st : Int) < (md : Int)
              · by_cases q1 : (md : Int) < (en : Int)
                · by_cases q2 : (en : Int) < (b : Int)
                  · first
                    | (exfalso; omega)
                    | (have HQ := HR.out st m en (st : Int) (m : Int) (en : Int) d wr rfl rfl rfl (by omega) (by omega) (by omega) HD.out S1.out
                       go_wp2_with (go_at_call 20; ((with_reducible refine HQ.mono ?_); rintro e w1 ⟨rfl, d1, hd1, hx1, sw1⟩))
                       have T1 : Aside (SW enc w0 blk off d1 w1) := sw1
                       have HX : Aside (MvI a b d d1 ∧ d1.size = N) := ⟨(rot_mv (by omega) (by omega) (by have := HD.out; omega) hx1).mono (by omega) (by omega), hd1⟩
                       have HV : Aside _ := HM.out.halves (d' := d1) (st := st) (en := en) ⟨by omega, by omega⟩ ⟨by omega, by omega⟩ (by have := HD.out; omega) hx1 FND.out.1 FND.out.2
                       rw [hE.2.2.2.2.1] at HV
                       clear sw1 hx1 hd1 FND S1 HQ
                       have HQ := HI.out a st md (a : Int) (st : Int) (md : Int) d1 w1 rfl rfl rfl (by omega) (by omega) (by omega) (by omega) HX.out.2 HV.out.1 T1.out
                       go_wp2_with (go_at_call 19; ((with_reducible refine HQ.mono ?_); rintro e w2 ⟨rfl, d2, mv2, sr2, sw2⟩))
                       have S2 : Aside (SW enc w0 blk off d2 w2) := sw2
                       have HV2 : Aside (MvI a md d1 d2 ∧ SrI bt a md d2) := ⟨mv2, sr2⟩
                       clear sw2 mv2 sr2 T1 HQ
                       have HV3 : Aside (MrgI bt pos md en b d2) := MrgI.congr HV.out.2.1 HV2.out.1.1 (fun i i1 => HV2.out.1.2.1 i (.inr i1))
                       have HQ := HI.out md en b (md : Int) (en : Int) (b : Int) d2 w2 rfl rfl rfl (by omega) (by omega) (by omega) h3 (by have := HV2.out.1.1; have := HX.out.2; omega) HV3.out S2.out
                       go_wp2_with (go_at_call 19; ((with_reducible refine HQ.mono ?_); rintro e w3 ⟨rfl, d3, mv3, sr3, sw3⟩))
                       go_end0
                       exact ⟨rfl, d3, (HX.out.1.trans (HV2.out.1.mono (Nat.le_refl _) (by omega))).trans (mv3.mono (by omega) (Nat.le_refl _)), sorted_halves HV.out.2.2 (by omega) HV2.out.1 HV2.out.2 mv3 sr3, sw3⟩)
                  · first
                    | (exfalso; omega)
                    | (have HQ := HR.out st m en (st : Int) (m : Int) (en : Int) d wr rfl rfl rfl (by omega) (by omega) (by omega) HD.out S1.out
                       go_wp2_with (go_at_call 20; ((with_reducible refine HQ.mono ?_); rintro e w1 ⟨rfl, d1, hd1, hx1, sw1⟩))
                       have T1 : Aside (SW enc w0 blk off d1 w1) := sw1
                       have HX : Aside (MvI a b d d1 ∧ d1.size = N) := ⟨(rot_mv (by omega) (by omega) (by have := HD.out; omega) hx1).mono (by omega) (by omega), hd1⟩
                       have HV : Aside _ := HM.out.halves (d' := d1) (st := st) (en := en) ⟨by omega, by omega⟩ ⟨by omega, by omega⟩ (by have := HD.out; omega) hx1 FND.out.1 FND.out.2
                       rw [hE.2.2.2.2.1] at HV
                       clear sw1 hx1 hd1 FND S1 HQ
                       have HQ := HI.out a st md (a : Int) (st : Int) (md : Int) d1 w1 rfl rfl rfl (by omega) (by omega) (by omega) (by omega) HX.out.2 HV.out.1 T1.out
                       go_wp2_with (go_at_call 19; ((with_reducible refine HQ.mono ?_); rintro e w2 ⟨rfl, d2, mv2, sr2, sw2⟩))
                       have S2 : Aside (SW enc w0 blk off d2 w2) := sw2
                       have HV2 : Aside (MvI a md d1 d2 ∧ SrI bt a md d2) := ⟨mv2, sr2⟩
                       clear sw2 mv2 sr2 T1 HQ
                       have HV3 : Aside (MrgI bt pos md en b d2) := MrgI.congr HV.out.2.1 HV2.out.1.1 (fun i i1 => HV2.out.1.2.1 i (.inr i1))
                       go_end0
                       exact ⟨rfl, d2, HX.out.1.trans (HV2.out.1.mono (Nat.le_refl _) (by omega)), sorted_halves HV.out.2.2 (by omega) HV2.out.1 HV2.out.2 (MvI.refl md b d2) (HV3.out.sorted (by omega)), S2.out⟩)
                · first
                  | (exfalso; omega)
                  | (have HQ := HR.out st m en (st : Int) (m : Int) (en : Int) d wr rfl rfl rfl (by omega) (by omega) (by omega) HD.out S1.out
                     go_wp2_with (go_at_call 20; ((with_reducible refine HQ.mono ?_); rintro e w1 ⟨rfl, d1, hd1, hx1, sw1⟩))
                     have T1 : Aside (SW enc w0 blk off d1 w1) := sw1
                     have HX : Aside (MvI a b d d1 ∧ d1.size = N) := ⟨(rot_mv (by omega) (by omega) (by have := HD.out; omega) hx1).mono (by omega) (by omega), hd1⟩
                     have HV : Aside _ := HM.out.halves (d' := d1) (st := st) (en := en) ⟨by omega, by omega⟩ ⟨by omega, by omega⟩ (by have := HD.out; omega) hx1 FND.out.1 FND.out.2
                     rw [hE.2.2.2.2.1] at HV
                     clear sw1 hx1 hd1 FND S1 HQ
                     have HQ := HI.out a st md (a : Int) (st : Int) (md : Int) d1 w1 rfl rfl rfl (by omega) (by omega) (by omega) (by omega) HX.out.2 HV.out.1 T1.out
                     go_wp2_with (go_at_call 19; ((with_reducible refine HQ.mono ?_); rintro e w2 ⟨rfl, d2, mv2, sr2, sw2⟩))
                     have S2 : Aside (SW enc w0 blk off d2 w2) := sw2
                     have HV2 : Aside (MvI a md d1 d2 ∧ SrI bt a md d2) := ⟨mv2, sr2⟩
                     clear sw2 mv2 sr2 T1 HQ
                     have HV3 : Aside (MrgI bt pos md en b d2) := MrgI.congr HV.out.2.1 HV2.out.1.1 (fun i i1 => HV2.out.1.2.1 i (.inr i1))
                     go_end0
                     exact ⟨rfl, d2, HX.out.1.trans (HV2.out.1.mono (Nat.le_refl _) (by omega)), sorted_halves HV.out.2.2 (by omega) HV2.out.1 HV2.out.2 (MvI.refl md b d2) (HV3.out.sorted (by omega)), S2.out⟩)
              · by_cases q1 : (md : Int) < (en : Int)
                · by_cases q2 : (en : Int) < (b : Int)
                  · first
                    | (exfalso; omega)
                    | (have HQ := HR.out st m en (st : Int) (m : Int) (en : Int) d wr rfl rfl rfl (by omega) (by omega) (by omega) HD.out S1.out
                       go_wp2_with (go_at_call 20; ((with_reducible refine HQ.mono ?_); rintro e w1 ⟨rfl, d1, hd1, hx1, sw1⟩))
                       have T1 : Aside (SW enc w0 blk off d1 w1) := sw1
                       have HX : Aside (MvI a b d d1 ∧ d1.size = N) := ⟨(rot_mv (by omega) (by omega) (by have := HD.out; omega) hx1).mono (by omega) (by omega), hd1⟩
                       have HV : Aside _ := HM.out.halves (d' := d1) (st := st) (en := en) ⟨by omega, by omega⟩ ⟨by omega, by omega⟩ (by have := HD.out; omega) hx1 FND.out.1 FND.out.2
                       rw [hE.2.2.2.2.1] at HV
                       clear sw1 hx1 hd1 FND S1 HQ
                       have HV2 : Aside (MvI a md d1 d1 ∧ SrI bt a md d1) := ⟨MvI.refl _ _ _, HV.out.1.sorted (by omega)⟩
                       have HV3 : Aside (MrgI bt pos md en b d1) := MrgI.congr HV.out.2.1 HV2.out.1.1 (fun i i1 => HV2.out.1.2.1 i (.inr i1))
                       have HQ := HI.out md en b (md : Int) (en : Int) (b : Int) d1 w1 rfl rfl rfl (by omega) (by omega) (by omega) h3 (by have := HV2.out.1.1; have := HX.out.2; omega) HV3.out T1.out
                       go_wp2_with (go_at_call 19; ((with_reducible refine HQ.mono ?_); rintro e w3 ⟨rfl, d3, mv3, sr3, sw3⟩))
                       go_end0
                       exact ⟨rfl, d3, (HX.out.1.trans (HV2.out.1.mono (Nat.le_refl _) (by omega))).trans (mv3.mono (by omega) (Nat.le_refl _)), sorted_halves HV.out.2.2 (by omega) HV2.out.1 HV2.out.2 mv3 sr3, sw3⟩)
                  · first
                    | (exfalso; omega)
                    | (have HQ := HR.out st m en (st : Int) (m : Int) (en : Int) d wr rfl rfl rfl (by omega) (by omega) (by omega) HD.out S1.out
                       go_wp2_with (go_at_call 20; ((with_reducible refine HQ.mono ?_); rintro e w1 ⟨rfl, d1, hd1, hx1, sw1⟩))
                       have T1 : Aside (SW enc w0 blk off d1 w1) := sw1
                       have HX : Aside (MvI a b d d1 ∧ d1.size = N) := ⟨(rot_mv (by omega) (by omega) (by have := HD.out; omega) hx1).mono (by omega) (by omega), hd1⟩
                       have HV : Aside _ := HM.out.halves (d' := d1) (st := st) (en := en) ⟨by omega, by omega⟩ ⟨by omega, by omega⟩ (by have := HD.out; omega) hx1 FND.out.1 FND.out.2
                       rw [hE.2.2.2.2.1] at HV
                       clear sw1 hx1 hd1 FND S1 HQ
                       have HV2 : Aside (MvI a md d1 d1 ∧ SrI bt a md d1) := ⟨MvI.refl _ _ _, HV.out.1.sorted (by omega)⟩
                       have HV3 : Aside (MrgI bt pos md en b d1) := MrgI.congr HV.out.2.1 HV2.out.1.1 (fun i i1 => HV2.out.1.2.1 i (.inr i1))
                       go_end0
                       exact ⟨rfl, d1, HX.out.1.trans (HV2.out.1.mono (Nat.le_refl _) (by omega)), sorted_halves HV.out.2.2 (by omega) HV2.out.1 HV2.out.2 (MvI.refl md b d1) (HV3.out.sorted (by omega)), T1.out⟩)
                · first
                  | (exfalso; omega)
                  | (have HQ := HR.out st m en (st : Int) (m : Int) (en : Int) d wr rfl rfl rfl (by omega) (by omega) (by omega) HD.out S1.out
                     go_wp2_with (go_at_call 20; ((with_reducible refine HQ.mono ?_); rintro e w1 ⟨rfl, d1, hd1, hx1, sw1⟩))
                     have T1 : Aside (SW enc w0 blk off d1 w1) := sw1
                     have HX : Aside (MvI a b d d1 ∧ d1.size = N) := ⟨(rot_mv (by omega) (by omega) (by have := HD.out; omega) hx1).mono (by omega) (by omega), hd1⟩
                     have HV : Aside _ := HM.out.halves (d' := d1) (st := st) (en := en) ⟨by omega, by omega⟩ ⟨by omega, by omega⟩ (by have := HD.out; omega) hx1 FND.out.1 FND.out.2
                     rw [hE.2.2.2.2.1] at HV
                     clear sw1 hx1 hd1 FND S1 HQ
                     have HV2 : Aside (MvI a md d1 d1 ∧ SrI bt a md d1) := ⟨MvI.refl _ _ _, HV.out.1.sorted (by omega)⟩
                     have HV3 : Aside (MrgI bt pos md en b d1) := MrgI.congr HV.out.2.1 HV2.out.1.1 (fun i i1 => HV2.out.1.2.1 i (.inr i1))
                     go_end0
                     exact ⟨rfl, d1, HX.out.1.trans (HV2.out.1.mono (Nat.le_refl _) (by omega)), sorted_halves HV.out.2.2 (by omega) HV2.out.1 HV2.out.2 (MvI.refl md b d1) (HV3.out.sorted (by omega)), T1.out⟩)
            · by_cases q1 : (md : Int) < (en : Int)
              · by_cases q2 : (en : Int) < (b : Int)
                · first
                  | (exfalso; omega)
                  | (have HQ := HR.out st m en (st : Int) (m : Int) (en : Int) d wr rfl rfl rfl (by omega) (by omega) (by omega) HD.out S1.out
                     go_wp2_with (go_at_call 20; ((with_reducible refine HQ.mono ?_); rintro e w1 ⟨rfl, d1, hd1, hx1, sw1⟩))
                     have T1 : Aside (SW enc w0 blk off d1 w1) := sw1
                     have HX : Aside (MvI a b d d1 ∧ d1.size = N) := ⟨(rot_mv (by omega) (by omega) (by have := HD.out; omega) hx1).mono (by omega) (by omega), hd1⟩
                     have HV : Aside _ := HM.out.halves (d' := d1) (st := st) (en := en) ⟨by omega, by omega⟩ ⟨by omega, by omega⟩ (by have := HD.out; omega) hx1 FND.out.1 FND.out.2
                     rw [hE.2.2.2.2.1] at HV
                     clear sw1 hx1 hd1 FND S1 HQ
                     have HV2 : Aside (MvI a md d1 d1 ∧ SrI bt a md d1) := ⟨MvI.refl _ _ _, HV.out.1.sorted (by omega)⟩
                     have HV3 : Aside (MrgI bt pos md en b d1) := MrgI.congr HV.out.2.1 HV2.out.1.1 (fun i i1 => HV2.out.1.2.1 i (.inr i1))
                     have HQ := HI.out md en b (md : Int) (en : Int) (b : Int) d1 w1 rfl rfl rfl (by omega) (by omega) (by omega) h3 (by have := HV2.out.1.1; have := HX.out.2; omega) HV3.out T1.out
                     go_wp2_with (go_at_call 19; ((with_reducible refine HQ.mono ?_); rintro e w3 ⟨rfl, d3, mv3, sr3, sw3⟩))
                     go_end0
                     exact ⟨rfl, d3, (HX.out.1.trans (HV2.out.1.mono (Nat.le_refl _) (by omega))).trans (mv3.mono (by omega) (Nat.le_refl _)), sorted_halves HV.out.2.2 (by omega) HV2.out.1 HV2.out.2 mv3 sr3, sw3⟩)
                · first
                  | (exfalso; omega)
                  | (have HQ := HR.out st m en (st : Int) (m : Int) (en : Int) d wr rfl rfl rfl (by omega) (by omega) (by omega) HD.out S1.out
                     go_wp2_with (go_at_call 20; ((with_reducible refine HQ.mono ?_); rintro e w1 ⟨rfl, d1, hd1, hx1, sw1⟩))
                     have T1 : Aside (SW enc w0 blk off d1 w1) := sw1
                     have HX : Aside (MvI a b d d1 ∧ d1.size = N) := ⟨(rot_mv (by omega) (by omega) (by have := HD.out; omega) hx1).mono (by omega) (by omega), hd1⟩
                     have HV : Aside _ := HM.out.halves (d' := d1) (st := st) (en := en) ⟨by omega, by omega⟩ ⟨by omega, by omega⟩ (by have := HD.out; omega) hx1 FND.out.1 FND.out.2
                     rw [hE.2.2.2.2.1] at HV
                     clear sw1 hx1 hd1 FND S1 HQ
                     have HV2 : Aside (MvI a md d1 d1 ∧ SrI bt a md d1) := ⟨MvI.refl _ _ _, HV.out.1.sorted (by omega)⟩
                     have HV3 : Aside (MrgI bt pos md en b d1) := MrgI.congr HV.out.2.1 HV2.out.1.1 (fun i i1 => HV2.out.1.2.1 i (.inr i1))
                     go_end0
                     exact ⟨rfl, d1, HX.out.1.trans (HV2.out.1.mono (Nat.le_refl _) (by omega)), sorted_halves HV.out.2.2 (by omega) HV2.out.1 HV2.out.2 (MvI.refl md b d1) (HV3.out.sorted (by omega)), T1.out⟩)
              · first
                | (exfalso; omega)
                | (have HQ := HR.out st m en (st : Int) (m : Int) (en : Int) d wr rfl rfl rfl (by omega) (by omega) (by omega) HD.out S1.out
                   go_wp2_with (go_at_call 20; ((with_reducible refine HQ.mono ?_); rintro e w1 ⟨rfl, d1, hd1, hx1, sw1⟩))
                   have T1 : Aside (SW enc w0 blk off d1 w1) := sw1
                   have HX : Aside (MvI a b d d1 ∧ d1.size = N) := ⟨(rot_mv (by omega) (by omega) (by have := HD.out; omega) hx1).mono (by omega) (by omega), hd1⟩
                   have HV : Aside _ := HM.out.halves (d' := d1) (st := st) (en := en) ⟨by omega, by omega⟩ ⟨by omega, by omega⟩ (by have := HD.out; omega) hx1 FND.out.1 FND.out.2
                   rw [hE.2.2.2.2.1] at HV
                   clear sw1 hx1 hd1 FND S1 HQ
                   have HV2 : Aside (MvI a md d1 d1 ∧ SrI bt a md d1) := ⟨MvI.refl _ _ _, HV.out.1.sorted (by omega)⟩
                   have HV3 : Aside (MrgI bt pos md en b d1) := MrgI.congr HV.out.2.1 HV2.out.1.1 (fun i i1 => HV2.out.1.2.1 i (.inr i1))
                   go_end0
                   exact ⟨rfl, d1, HX.out.1.trans (HV2.out.1.mono (Nat.le_refl _) (by omega)), sorted_halves HV.out.2.2 (by omega) HV2.out.1 HV2.out.2 (MvI.refl md b d1) (HV3.out.sorted (by omega)), T1.out⟩)
          · by_cases r1 : (a : Int) < (st : Int)
            · by_cases r2 : (st : Int) < (md : Int)
              · by_cases q1 : (md : Int) < (en : Int)
                · by_cases q2 : (en : Int) < (b : Int)
                  · first
                    | (exfalso; omega)
                    | (have HX : Aside (MvI a b d d ∧ d.size = N) := ⟨MvI.refl _ _ _, HD.out⟩
                       have HV : Aside _ := HM.out.halves (d' := d) (st := st) (en := en) ⟨by omega, by omega⟩ ⟨by omega, by omega⟩ rfl (fun x => rot_none (fun i => d[i]!) (by omega) (by omega) (by omega) x) FND.out.1 FND.out.2
                       rw [hE.2.2.2.2.1] at HV
                       clear FND
                       have HQ := HI.out a st md (a : Int) (st : Int) (md : Int) d wr rfl rfl rfl (by omega) (by omega) (by omega) (by omega) HX.out.2 HV.out.1 S1.out
                       go_wp2_with (go_at_call 19; ((with_reducible refine HQ.mono ?_); rintro e w2 ⟨rfl, d2, mv2, sr2, sw2⟩))
                       have S2 : Aside (SW enc w0 blk off d2 w2) := sw2
                       have HV2 : Aside (MvI a md d d2 ∧ SrI bt a md d2) := ⟨mv2, sr2⟩
                       clear sw2 mv2 sr2 S1 HQ
                       have HV3 : Aside (MrgI bt pos md en b d2) := MrgI.congr HV.out.2.1 HV2.out.1.1 (fun i i1 => HV2.out.1.2.1 i (.inr i1))
                       have HQ := HI.out md en b (md : Int) (en : Int) (b : Int) d2 w2 rfl rfl rfl (by omega) (by omega) (by omega) h3 (by have := HV2.out.1.1; have := HX.out.2; omega) HV3.out S2.out
                       go_wp2_with (go_at_call 19; ((with_reducible refine HQ.mono ?_); rintro e w3 ⟨rfl, d3, mv3, sr3, sw3⟩))
                       go_end0
                       exact ⟨rfl, d3, (HX.out.1.trans (HV2.out.1.mono (Nat.le_refl _) (by omega))).trans (mv3.mono (by omega) (Nat.le_refl _)), sorted_halves HV.out.2.2 (by omega) HV2.out.1 HV2.out.2 mv3 sr3, sw3⟩)
                  · first
                    | (exfalso; omega)
                    | (have HX : Aside (MvI a b d d ∧ d.size = N) := ⟨MvI.refl _ _ _, HD.out⟩
                       have HV : Aside _ := HM.out.halves (d' := d) (st := st) (en := en) ⟨by omega, by omega⟩ ⟨by omega, by omega⟩ rfl (fun x => rot_none (fun i => d[i]!) (by omega) (by omega) (by omega) x) FND.out.1 FND.out.2
                       rw [hE.2.2.2.2.1] at HV
                       clear FND
                       have HQ := HI.out a st md (a : Int) (st : Int) (md : Int) d wr rfl rfl rfl (by omega) (by omega) (by omega) (by omega) HX.out.2 HV.out.1 S1.out
                       go_wp2_with (go_at_call 19; ((with_reducible refine HQ.mono ?_); rintro e w2 ⟨rfl, d2, mv2, sr2, sw2⟩))
                       have S2 : Aside (SW enc w0 blk off d2 w2) := sw2
                       have HV2 : Aside (MvI a md d d2 ∧ SrI bt a md d2) := ⟨mv2, sr2⟩
                       clear sw2 mv2 sr2 S1 HQ
                       have HV3 : Aside (MrgI bt pos md en b d2) := MrgI.congr HV.out.2.1 HV2.out.1.1 (fun i i1 => HV2.out.1.2.1 i (.inr i1))
                       go_end0
                       exact ⟨rfl, d2, HX.out.1.trans (HV2.out.1.mono (Nat.le_refl _) (by omega)), sorted_halves HV.out.2.2 (by omega) HV2.out.1 HV2.out.2 (MvI.refl md b d2) (HV3.out.sorted (by omega)), S2.out⟩)
                · first
                  | (exfalso; omega)
                  | (have HX : Aside (MvI a b d d ∧ d.size = N) := ⟨MvI.refl _ _ _, HD.out⟩
                     have HV : Aside _ := HM.out.halves (d' := d) (st := st) (en := en) ⟨by omega, by omega⟩ ⟨by omega, by omega⟩ rfl (fun x => rot_none (fun i => d[i]!) (by omega) (by omega) (by omega) x) FND.out.1 FND.out.2
                     rw [hE.2.2.2.2.1] at HV
                     clear FND
                     have HQ := HI.out a st md (a : Int) (st : Int) (md : Int) d wr rfl rfl rfl (by omega) (by omega) (by omega) (by omega) HX.out.2 HV.out.1 S1.out
                     go_wp2_with (go_at_call 19; ((with_reducible refine HQ.mono ?_); rintro e w2 ⟨rfl, d2, mv2, sr2, sw2⟩))
                     have S2 : Aside (SW enc w0 blk off d2 w2) := sw2
                     have HV2 : Aside (MvI a md d d2 ∧ SrI bt a md d2) := ⟨mv2, sr2⟩
                     clear sw2 mv2 sr2 S1 HQ
                     have HV3 : Aside (MrgI bt pos md en b d2) := MrgI.congr HV.out.2.1 HV2.out.1.1 (fun i i1 => HV2.out.1.2.1 i (.inr i1))
                     go_end0
                     exact ⟨rfl, d2, HX.out.1.trans (HV2.out.1.mono (Nat.le_refl _) (by omega)), sorted_halves HV.out.2.2 (by omega) HV2.out.1 HV2.out.2 (MvI.refl md b d2) (HV3.out.sorted (by omega)), S2.out⟩)
              · by_cases q1 : (md : Int) < (en : Int)
                · by_cases q2 : (en : Int) < (b : Int)
                  · first
                    | (exfalso; omega)
                    | (have HX : Aside (MvI a b d d ∧ d.size = N) := ⟨MvI.refl _ _ _, HD.out⟩
                       have HV : Aside _ := HM.out.halves (d' := d) (st := st) (en := en) ⟨by omega, by omega⟩ ⟨by omega, by omega⟩ rfl (fun x => rot_none (fun i => d[i]!) (by omega) (by omega) (by omega) x) FND.out.1 FND.out.2
                       rw [hE.2.2.2.2.1] at HV
                       clear FND
                       have HV2 : Aside (MvI a md d d ∧ SrI bt a md d) := ⟨MvI.refl _ _ _, HV.out.1.sorted (by omega)⟩
                       have HV3 : Aside (MrgI bt pos md en b d) := MrgI.congr HV.out.2.1 HV2.out.1.1 (fun i i1 => HV2.out.1.2.1 i (.inr i1))
                       have HQ := HI.out md en b (md : Int) (en : Int) (b : Int) d wr rfl rfl rfl (by omega) (by omega) (by omega) h3 (by have := HV2.out.1.1; have := HX.out.2; omega) HV3.out S1.out
                       go_wp2_with (go_at_call 19; ((with_reducible refine HQ.mono ?_); rintro e w3 ⟨rfl, d3, mv3, sr3, sw3⟩))
                       go_end0
                       exact ⟨rfl, d3, (HX.out.1.trans (HV2.out.1.mono (Nat.le_refl _) (by omega))).trans (mv3.mono (by omega) (Nat.le_refl _)), sorted_halves HV.out.2.2 (by omega) HV2.out.1 HV2.out.2 mv3 sr3, sw3⟩)
                  · first
                    | (exfalso; omega)
                    | (have HX : Aside (MvI a b d d ∧ d.size = N) := ⟨MvI.refl _ _ _, HD.out⟩
                       have HV : Aside _ := HM.out.halves (d' := d) (st := st) (en := en) ⟨by omega, by omega⟩ ⟨by omega, by omega⟩ rfl (fun x => rot_none (fun i => d[i]!) (by omega) (by omega) (by omega) x) FND.out.1 FND.out.2
                       rw [hE.2.2.2.2.1] at HV
                       clear FND
                       have HV2 : Aside (MvI a md d d ∧ SrI bt a md d) := ⟨MvI.refl _ _ _, HV.out.1.sorted (by omega)⟩
                       have HV3 : Aside (MrgI bt pos md en b d) := MrgI.congr HV.out.2.1 HV2.out.1.1 (fun i i1 => HV2.out.1.2.1 i (.inr i1))
                       go_wp2
                       go_end0
                       exact ⟨rfl, d, HX.out.1.trans (HV2.out.1.mono (Nat.le_refl _) (by omega)), sorted_halves HV.out.2.2 (by omega) HV2.out.1 HV2.out.2 (MvI.refl md b d) (HV3.out.sorted (by omega)), S1.out⟩)
                · first
                  | (exfalso; omega)
                  | (have HX : Aside (MvI a b d d ∧ d.size = N) := ⟨MvI.refl _ _ _, HD.out⟩
                     have HV : Aside _ := HM.out.halves (d' := d) (st := st) (en := en) ⟨by omega, by omega⟩ ⟨by omega, by omega⟩ rfl (fun x => rot_none (fun i => d[i]!) (by omega) (by omega) (by omega) x) FND.out.1 FND.out.2
                     rw [hE.2.2.2.2.1] at HV
                     clear FND
                     have HV2 : Aside (MvI a md d d ∧ SrI bt a md d) := ⟨MvI.refl _ _ _, HV.out.1.sorted (by omega)⟩
                     have HV3 : Aside (MrgI bt pos md en b d) := MrgI.congr HV.out.2.1 HV2.out.1.1 (fun i i1 => HV2.out.1.2.1 i (.inr i1))
                     go_wp2
                     go_end0
                     exact ⟨rfl, d, HX.out.1.trans (HV2.out.1.mono (Nat.le_refl _) (by omega)), sorted_halves HV.out.2.2 (by omega) HV2.out.1 HV2.out.2 (MvI.refl md b d) (HV3.out.sorted (by omega)), S1.out⟩)
            · by_cases q1 : (md : Int) < (en : Int)
              · by_cases q2 : (en : Int) < (b : Int)
                · first
                  | (exfalso; omega)
                  | (have HX : Aside (MvI a b d d ∧ d.size = N) := ⟨MvI.refl _ _ _, HD.out⟩
                     have HV : Aside _ := HM.out.halves (d' := d) (st := st) (en := en) ⟨by omega, by omega⟩ ⟨by omega, by omega⟩ rfl (fun x => rot_none (fun i => d[i]!) (by omega) (by omega) (by omega) x) FND.out.1 FND.out.2
                     rw [hE.2.2.2.2.1] at HV
                     clear FND
                     have HV2 : Aside (MvI a md d d ∧ SrI bt a md d) := ⟨MvI.refl _ _ _, HV.out.1.sorted (by omega)⟩
                     have HV3 : Aside (MrgI bt pos md en b d) := MrgI.congr HV.out.2.1 HV2.out.1.1 (fun i i1 => HV2.out.1.2.1 i (.inr i1))
                     have HQ := HI.out md en b (md : Int) (en : Int) (b : Int) d wr rfl rfl rfl (by omega) (by omega) (by omega) h3 (by have := HV2.out.1.1; have := HX.out.2; omega) HV3.out S1.out
                     go_wp2_with (go_at_call 19; ((with_reducible refine HQ.mono ?_); rintro e w3 ⟨rfl, d3, mv3, sr3, sw3⟩))
                     go_end0
                     exact ⟨rfl, d3, (HX.out.1.trans (HV2.out.1.mono (Nat.le_refl _) (by omega))).trans (mv3.mono (by omega) (Nat.le_refl _)), sorted_halves HV.out.2.2 (by omega) HV2.out.1 HV2.out.2 mv3 sr3, sw3⟩)
                · first
                  | (exfalso; omega)
                  | (have HX : Aside (MvI a b d d ∧ d.size = N) := ⟨MvI.refl _ _ _, HD.out⟩
                     have HV : Aside _ := HM.out.halves (d' := d) (st := st) (en := en) ⟨by omega, by omega⟩ ⟨by omega, by omega⟩ rfl (fun x => rot_none (fun i => d[i]!) (by omega) (by omega) (by omega) x) FND.out.1 FND.out.2
                     rw [hE.2.2.2.2.1] at HV
                     clear FND
                     have HV2 : Aside (MvI a md d d ∧ SrI bt a md d) := ⟨MvI.refl _ _ _, HV.out.1.sorted (by omega)⟩
                     have HV3 : Aside (MrgI bt pos md en b d) := MrgI.congr HV.out.2.1 HV2.out.1.1 (fun i i1 => HV2.out.1.2.1 i (.inr i1))
                     go_wp2
                     go_end0
                     exact ⟨rfl, d, HX.out.1.trans (HV2.out.1.mono (Nat.le_refl _) (by omega)), sorted_halves HV.out.2.2 (by omega) HV2.out.1 HV2.out.2 (MvI.refl md b d) (HV3.out.sorted (by omega)), S1.out⟩)
              · first
                | (exfalso; omega)
                | (have HX : Aside (MvI a b d d ∧ d.size = N) := ⟨MvI.refl _ _ _, HD.out⟩
                   have HV : Aside _ := HM.out.halves (d' := d) (st := st) (en := en) ⟨by omega, by omega⟩ ⟨by omega, by omega⟩ rfl (fun x => rot_none (fun i => d[i]!) (by omega) (by omega) (by omega) x) FND.out.1 FND.out.2
                   rw [hE.2.2.2.2.1] at HV
                   clear FND
                   have HV2 : Aside (MvI a md d d ∧ SrI bt a md d) := ⟨MvI.refl _ _ _, HV.out.1.sorted (by omega)⟩
                   have HV3 : Aside (MrgI bt pos md en b d) := MrgI.congr HV.out.2.1 HV2.out.1.1 (fun i i1 => HV2.out.1.2.1 i (.inr i1))
                   go_wp2
                   go_end0
                   exact ⟨rfl, d, HX.out.1.trans (HV2.out.1.mono (Nat.le_refl _) (by omega)), sorted_halves HV.out.2.2 (by omega) HV2.out.1 HV2.out.2 (MvI.refl md b d) (HV3.out.sorted (by omega)), S1.out⟩)
        · by_cases r1 : (a : Int) < (st : Int)
          · by_cases r2 : (st : Int) < (md : Int)
            · by_cases q1 : (md : Int) < (en : Int)
              · by_cases q2 : (en : Int) < (b : Int)
                · first
                  | (exfalso; omega)
                  | (have HX : Aside (MvI a b d d ∧ d.size = N) := ⟨MvI.refl _ _ _, HD.out⟩
                     have HV : Aside _ := HM.out.halves (d' := d) (st := st) (en := en) ⟨by omega, by omega⟩ ⟨by omega, by omega⟩ rfl (fun x => rot_none (fun i => d[i]!) (by omega) (by omega) (by omega) x) FND.out.1 FND.out.2
                     rw [hE.2.2.2.2.1] at HV
                     clear FND
                     have HQ := HI.out a st md (a : Int) (st : Int) (md : Int) d wr rfl rfl rfl (by omega) (by omega) (by omega) (by omega) HX.out.2 HV.out.1 S1.out
                     go_wp2_with (go_at_call 19; ((with_reducible refine HQ.mono ?_); rintro e w2 ⟨rfl, d2, mv2, sr2, sw2⟩))
                     have S2 : Aside (SW enc w0 blk off d2 w2) := sw2
                     have HV2 : Aside (MvI a md d d2 ∧ SrI bt a md d2) := ⟨mv2, sr2⟩
                     clear sw2 mv2 sr2 S1 HQ
                     have HV3 : Aside (MrgI bt pos md en b d2) := MrgI.congr HV.out.2.1 HV2.out.1.1 (fun i i1 => HV2.out.1.2.1 i (.inr i1))
                     have HQ := HI.out md en b (md : Int) (en : Int) (b : Int) d2 w2 rfl rfl rfl (by omega) (by omega) (by omega) h3 (by have := HV2.out.1.1; have := HX.out.2; omega) HV3.out S2.out
                     go_wp2_with (go_at_call 19; ((with_reducible refine HQ.mono ?_); rintro e w3 ⟨rfl, d3, mv3, sr3, sw3⟩))
                     go_end0
                     exact ⟨rfl, d3, (HX.out.1.trans (HV2.out.1.mono (Nat.le_refl _) (by omega))).trans (mv3.mono (by omega) (Nat.le_refl _)), sorted_halves HV.out.2.2 (by omega) HV2.out.1 HV2.out.2 mv3 sr3, sw3⟩)
                · first
                  | (exfalso; omega)
                  | (have HX : Aside (MvI a b d d ∧ d.size = N) := ⟨MvI.refl _ _ _, HD.out⟩
                     have HV : Aside _ := HM.out.halves (d' := d) (st := st) (en := en) ⟨by omega, by omega⟩ ⟨by omega, by omega⟩ rfl (fun x => rot_none (fun i => d[i]!) (by omega) (by omega) (by omega) x) FND.out.1 FND.out.2
                     rw [hE.2.2.2.2.1] at HV
                     clear FND
                     have HQ := HI.out a st md (a : Int) (st : Int) (md : Int) d wr rfl rfl rfl (by omega) (by omega) (by omega) (by omega) HX.out.2 HV.out.1 S1.out
                     go_wp2_with (go_at_call 19; ((with_reducible refine HQ.mono ?_); rintro e w2 ⟨rfl, d2, mv2, sr2, sw2⟩))
                     have S2 : Aside (SW enc w0 blk off d2 w2) := sw2
                     have HV2 : Aside (MvI a md d d2 ∧ SrI bt a md d2) := ⟨mv2, sr2⟩
                     clear sw2 mv2 sr2 S1 HQ
                     have HV3 : Aside (MrgI bt pos md en b d2) := MrgI.congr HV.out.2.1 HV2.out.1.1 (fun i i1 => HV2.out.1.2.1 i (.inr i1))
                     go_end0
                     exact ⟨rfl, d2, HX.out.1.trans (HV2.out.1.mono (Nat.le_refl _) (by omega)), sorted_halves HV.out.2.2 (by omega) HV2.out.1 HV2.out.2 (MvI.refl md b d2) (HV3.out.sorted (by omega)), S2.out⟩)
              · first
                | (exfalso; omega)
                | (have HX : Aside (MvI a b d d ∧ d.size = N) := ⟨MvI.refl _ _ _, HD.out⟩
                   have HV : Aside _ := HM.out.halves (d' := d) (st := st) (en := en) ⟨by omega, by omega⟩ ⟨by omega, by omega⟩ rfl (fun x => rot_none (fun i => d[i]!) (by omega) (by omega) (by omega) x) FND.out.1 FND.out.2
                   rw [hE.2.2.2.2.1] at HV
                   clear FND
                   have HQ := HI.out a st md (a : Int) (st : Int) (md : Int) d wr rfl rfl rfl (by omega) (by omega) (by omega) (by omega) HX.out.2 HV.out.1 S1.out
                   go_wp2_with (go_at_call 19; ((with_reducible refine HQ.mono ?_); rintro e w2 ⟨rfl, d2, mv2, sr2, sw2⟩))
                   have S2 : Aside (SW enc w0 blk off d2 w2) := sw2
                   have HV2 : Aside (MvI a md d d2 ∧ SrI bt a md d2) := ⟨mv2, sr2⟩
                   clear sw2 mv2 sr2 S1 HQ
                   have HV3 : Aside (MrgI bt pos md en b d2) := MrgI.congr HV.out.2.1 HV2.out.1.1 (fun i i1 => HV2.out.1.2.1 i (.inr i1))
                   go_end0
                   exact ⟨rfl, d2, HX.out.1.trans (HV2.out.1.mono (Nat.le_refl _) (by omega)), sorted_halves HV.out.2.2 (by omega) HV2.out.1 HV2.out.2 (MvI.refl md b d2) (HV3.out.sorted (by omega)), S2.out⟩)
            · by_cases q1 : (md : Int) < (en : Int)
              · by_cases q2 : (en : Int) < (b : Int)
                · first
                  | (exfalso; omega)
                  | (have HX : Aside (MvI a b d d ∧ d.size = N) := ⟨MvI.refl _ _ _, HD.out⟩
                     have HV : Aside _ := HM.out.halves (d' := d) (st := st) (en := en) ⟨by omega, by omega⟩ ⟨by omega, by omega⟩ rfl (fun x => rot_none (fun i => d[i]!) (by omega) (by omega) (by omega) x) FND.out.1 FND.out.2
                     rw [hE.2.2.2.2.1] at HV
                     clear FND
                     have HV2 : Aside (MvI a md d d ∧ SrI bt a md d) := ⟨MvI.refl _ _ _, HV.out.1.sorted (by omega)⟩
                     have HV3 : Aside (MrgI bt pos md en b d) := MrgI.congr HV.out.2.1 HV2.out.1.1 (fun i i1 => HV2.out.1.2.1 i (.inr i1))
                     have HQ := HI.out md en b (md : Int) (en : Int) (b : Int) d wr rfl rfl rfl (by omega) (by omega) (by omega) h3 (by have := HV2.out.1.1; have := HX.out.2; omega) HV3.out S1.out
                     go_wp2_with (go_at_call 19; ((with_reducible refine HQ.mono ?_); rintro e w3 ⟨rfl, d3, mv3, sr3, sw3⟩))
                     go_end0
                     exact ⟨rfl, d3, (HX.out.1.trans (HV2.out.1.mono (Nat.le_refl _) (by omega))).trans (mv3.mono (by omega) (Nat.le_refl _)), sorted_halves HV.out.2.2 (by omega) HV2.out.1 HV2.out.2 mv3 sr3, sw3⟩)
                · first
                  | (exfalso; omega)
                  | (have HX : Aside (MvI a b d d ∧ d.size = N) := ⟨MvI.refl _ _ _, HD.out⟩
                     have HV : Aside _ := HM.out.halves (d' := d) (st := st) (en := en) ⟨by omega, by omega⟩ ⟨by omega, by omega⟩ rfl (fun x => rot_none (fun i => d[i]!) (by omega) (by omega) (by omega) x) FND.out.1 FND.out.2
                     rw [hE.2.2.2.2.1] at HV
                     clear FND
                     have HV2 : Aside (MvI a md d d ∧ SrI bt a md d) := ⟨MvI.refl _ _ _, HV.out.1.sorted (by omega)⟩
                     have HV3 : Aside (MrgI bt pos md en b d) := MrgI.congr HV.out.2.1 HV2.out.1.1 (fun i i1 => HV2.out.1.2.1 i (.inr i1))
                     go_wp2
                     go_end0
                     exact ⟨rfl, d, HX.out.1.trans (HV2.out.1.mono (Nat.le_refl _) (by omega)), sorted_halves HV.out.2.2 (by omega) HV2.out.1 HV2.out.2 (MvI.refl md b d) (HV3.out.sorted (by omega)), S1.out⟩)
              · first
                | (exfalso; omega)
                | (have HX : Aside (MvI a b d d ∧ d.size = N) := ⟨MvI.refl _ _ _, HD.out⟩
                   have HV : Aside _ := HM.out.halves (d' := d) (st := st) (en := en) ⟨by omega, by omega⟩ ⟨by omega, by omega⟩ rfl (fun x => rot_none (fun i => d[i]!) (by omega) (by omega) (by omega) x) FND.out.1 FND.out.2
                   rw [hE.2.2.2.2.1] at HV
                   clear FND
                   have HV2 : Aside (MvI a md d d ∧ SrI bt a md d) := ⟨MvI.refl _ _ _, HV.out.1.sorted (by omega)⟩
                   have HV3 : Aside (MrgI bt pos md en b d) := MrgI.congr HV.out.2.1 HV2.out.1.1 (fun i i1 => HV2.out.1.2.1 i (.inr i1))
                   go_wp2
                   go_end0
                   exact ⟨rfl, d, HX.out.1.trans (HV2.out.1.mono (Nat.le_refl _) (by omega)), sorted_halves HV.out.2.2 (by omega) HV2.out.1 HV2.out.2 (MvI.refl md b d) (HV3.out.sorted (by omega)), S1.out⟩)
          · by_cases q1 : (md : Int) < (en : Int)
            · by_cases q2 : (en : Int) < (b : Int)
              · first
                | (exfalso; omega)
                | (have HX : Aside (MvI a b d d ∧ d.size = N) := ⟨MvI.refl _ _ _, HD.out⟩
                   have HV : Aside _ := HM.out.halves (d' := d) (st := st) (en := en) ⟨by omega, by omega⟩ ⟨by omega, by omega⟩ rfl (fun x => rot_none (fun i => d[i]!) (by omega) (by omega) (by omega) x) FND.out.1 FND.out.2
                   rw [hE.2.2.2.2.1] at HV
                   clear FND
                   have HV2 : Aside (MvI a md d d ∧ SrI bt a md d) := ⟨MvI.refl _ _ _, HV.out.1.sorted (by omega)⟩
                   have HV3 : Aside (MrgI bt pos md en b d) := MrgI.congr HV.out.2.1 HV2.out.1.1 (fun i i1 => HV2.out.1.2.1 i (.inr i1))
                   have HQ := HI.out md en b (md : Int) (en : Int) (b : Int) d wr rfl rfl rfl (by omega) (by omega) (by omega) h3 (by have := HV2.out.1.1; have := HX.out.2; omega) HV3.out S1.out
                   go_wp2_with (go_at_call 19; ((with_reducible refine HQ.mono ?_); rintro e w3 ⟨rfl, d3, mv3, sr3, sw3⟩))
                   go_end0
                   exact ⟨rfl, d3, (HX.out.1.trans (HV2.out.1.mono (Nat.le_refl _) (by omega))).trans (mv3.mono (by omega) (Nat.le_refl _)), sorted_halves HV.out.2.2 (by omega) HV2.out.1 HV2.out.2 mv3 sr3, sw3⟩)
              · first
                | (exfalso; omega)
                | (have HX : Aside (MvI a b d d ∧ d.size = N) := ⟨MvI.refl _ _ _, HD.out⟩
                   have HV : Aside _ := HM.out.halves (d' := d) (st := st) (en := en) ⟨by omega, by omega⟩ ⟨by omega, by omega⟩ rfl (fun x => rot_none (fun i => d[i]!) (by omega) (by omega) (by omega) x) FND.out.1 FND.out.2
                   rw [hE.2.2.2.2.1] at HV
                   clear FND
                   have HV2 : Aside (MvI a md d d ∧ SrI bt a md d) := ⟨MvI.refl _ _ _, HV.out.1.sorted (by omega)⟩
                   have HV3 : Aside (MrgI bt pos md en b d) := MrgI.congr HV.out.2.1 HV2.out.1.1 (fun i i1 => HV2.out.1.2.1 i (.inr i1))
                   go_wp2
                   go_end0
                   exact ⟨rfl, d, HX.out.1.trans (HV2.out.1.mono (Nat.le_refl _) (by omega)), sorted_halves HV.out.2.2 (by omega) HV2.out.1 HV2.out.2 (MvI.refl md b d) (HV3.out.sorted (by omega)), S1.out⟩)
            · first
              | (exfalso; omega)
              | (have HX : Aside (MvI a b d d ∧ d.size = N) := ⟨MvI.refl _ _ _, HD.out⟩
                 have HV : Aside _ := HM.out.halves (d' := d) (st := st) (en := en) ⟨by omega, by omega⟩ ⟨by omega, by omega⟩ rfl (fun x => rot_none (fun i => d[i]!) (by omega) (by omega) (by omega) x) FND.out.1 FND.out.2
                 rw [hE.2.2.2.2.1] at HV
                 clear FND
                 have HV2 : Aside (MvI a md d d ∧ SrI bt a md d) := ⟨MvI.refl _ _ _, HV.out.1.sorted (by omega)⟩
                 have HV3 : Aside (MrgI bt pos md en b d) := MrgI.congr HV.out.2.1 HV2.out.1.1 (fun i i1 => HV2.out.1.2.1 i (.inr i1))
                 go_wp2
                 go_end0
                 exact ⟨rfl, d, HX.out.1.trans (HV2.out.1.mono (Nat.le_refl _) (by omega)), sorted_halves HV.out.2.2 (by omega) HV2.out.1 HV2.out.2 (MvI.refl md b d) (HV3.out.sorted (by omega)), S1.out⟩)
  · have zc : ¬ (md : Int) < (m : Int) := by omega
    obtain ⟨lo0, hlo0⟩ : ∃ l : Nat, a = l := ⟨_, rfl⟩
    obtain ⟨hi0, hhi0⟩ : ∃ l : Nat, m = l := ⟨_, rfl⟩
    have hb0 : a ≤ lo0 ∧ lo0 ≤ hi0 ∧ hi0 ≤ m ∧ n ≤ lo0 + b ∧ hi0 + m ≤ n := by have := HN.out; omega
    have hend : lo0 = a ∧ hi0 = m := ⟨hlo0.symm, hhi0.symm⟩
    have st0 : Aside (lo0 = a ∧ hi0 = m) := hend
    clear hlo0 hhi0
    have HE : Aside _ := hend
    clear hend
    go_enter Try.func19, Try.ntmps19
    go_wp2
    go_loopg [20, 21] N (fun kx s10 s11 wr => ∃ st r : Nat, s10 = .int .i64 st ∧ s11 = .int .i64 r ∧ lo0 ≤ st ∧ st ≤ r ∧ r ≤ hi0 ∧ r - st ≤ kx ∧ Aside (SW enc w0 blk off d wr) ∧ Aside ((lo0 < st → ltOf cf d[p - (st - 1)]! d[st - 1]! = false) ∧ (r < hi0 → ltOf cf d[p - r]! d[r]! = true)))
    case atStart => exact ⟨lo0, hi0, by rw [st0.out.1], by rw [st0.out.2], by omega, by omega, by omega, by omega, S0, (⟨fun h => by omega, fun h => by omega⟩ : (lo0 < lo0 → ltOf cf d[p - (lo0 - 1)]! d[lo0 - 1]! = false) ∧ (hi0 < hi0 → ltOf cf d[p - hi0]! d[hi0]! = true))⟩
    case round =>
      clear S0
      obtain ⟨st, r, rfl, rfl, hlo, hlh, hhi, hkx, S1, I⟩ := hrel
      by_cases hlt : st < r
      · have hltz : (st : Int) < (r : Int) := by omega
        obtain ⟨c, hc⟩ : ∃ c : Nat, (st + r) / 2 = c := ⟨_, rfl⟩
        have hcI : ((st : Int) + (r : Int)) / 2 = (c : Int) := by omega
        have hb1 : st ≤ c ∧ c < r := by omega
        obtain ⟨pq, hpq⟩ : ∃ z : Nat, p - c = z := ⟨_, rfl⟩
        have hqI : (p : Int) - (c : Int) = (pq : Int) := by have := HN.out; omega
        have hqN : pq < N ∧ c < N := by have := HN.out; have := HE.out; omega
        have HQ : Aside (p - c = pq) := hpq
        cases hlv : ltOf cf d[pq]! d[c]!
        · have I2 : Aside ((lo0 < c + 1 → ltOf cf d[p - (c + 1 - 1)]! d[c + 1 - 1]! = false) ∧ (r < hi0 → ltOf cf d[p - r]! d[r]! = true)) := ⟨fun _ => by rw [show c + 1 - 1 = c by omega, HQ.out]; exact hlv, I.out.2⟩
          clear I hc hpq HQ
          obtain ⟨iN1, hiN1⟩ : ∃ q, q = pq := ⟨_, rfl⟩
          obtain ⟨jN1, hjN1⟩ : ∃ q, q = c := ⟨_, rfl⟩
          have ea1 : ((pq : Int)).toNat = iN1 := by omega
          have pa1 : (0 : Int) ≤ (pq : Int) := by omega
          have ba1 : (pq : Int) < (N : Int) := by omega
          have ra1 : IntKind.i64.wrap ((pq : Int)) = (pq : Int) := by rw [IntKind.wrap_i64]; omega
          have ec1 : ((c : Int)).toNat = jN1 := by omega
          have pc1 : (0 : Int) ≤ (c : Int) := by omega
          have bc1 : (c : Int) < (N : Int) := by omega
          have rc1 : IntKind.i64.wrap ((c : Int)) = (c : Int) := by rw [IntKind.wrap_i64]; omega
          obtain ⟨x1, hx1⟩ : ∃ x, x = d[pq]! := ⟨_, rfl⟩
          obtain ⟨y1, hy1⟩ : ∃ x, x = d[c]! := ⟨_, rfl⟩
          have l1a := S1.out.cl R (by omega) (pq) (by omega)
          have l1b := S1.out.cl R (by omega) (c) (by omega)
          rw [← hx1, ← hiN1] at l1a
          rw [← hy1, ← hjN1] at l1b
          have hc1 := S1.out.cmp HC.out (by omega) x1 y1
          have hv1 : ¬ cf x1 y1 < 0 := by rw [hx1, hy1]; exact of_decide_eq_false hlv
          have hd1 : decide (cf x1 y1 < 0) = false := decide_eq_false hv1
          clear hlv
          clear hx1 hy1 hiN1 hjN1
          go_wp2_with fail
          go_quiet_grown (first | (go_at_fn g; refine Calls.grown_of (hc1 _ _)))
          have S2 : Aside (SW enc w0 blk off d (grow (wr.drewN nq) osq)) := S1.out.grown nq osq
          clear l1a l1b hc1 S1
          generalize grow (wr.drewN nq) osq = w2 at S2 ⊢
          clear nq osq
          clear ea1 ec1
          go_wp2
          go_roundg (r - (c + 1))
          case measure => omega
          case rel => exact ⟨c + 1, r, by go_num, rfl, by omega, by omega, by omega, Nat.le_refl _, S2, I2⟩
        · have I2 : Aside ((lo0 < st → ltOf cf d[p - (st - 1)]! d[st - 1]! = false) ∧ (c < hi0 → ltOf cf d[p - c]! d[c]! = true)) := ⟨I.out.1, fun _ => by rw [HQ.out]; exact hlv⟩
          clear I hc hpq HQ
          obtain ⟨iN2, hiN2⟩ : ∃ q, q = pq := ⟨_, rfl⟩
          obtain ⟨jN2, hjN2⟩ : ∃ q, q = c := ⟨_, rfl⟩
          have ea2 : ((pq : Int)).toNat = iN2 := by omega
          have pa2 : (0 : Int) ≤ (pq : Int) := by omega
          have ba2 : (pq : Int) < (N : Int) := by omega
          have ra2 : IntKind.i64.wrap ((pq : Int)) = (pq : Int) := by rw [IntKind.wrap_i64]; omega
          have ec2 : ((c : Int)).toNat = jN2 := by omega
          have pc2 : (0 : Int) ≤ (c : Int) := by omega
          have bc2 : (c : Int) < (N : Int) := by omega
          have rc2 : IntKind.i64.wrap ((c : Int)) = (c : Int) := by rw [IntKind.wrap_i64]; omega
          obtain ⟨x2, hx2⟩ : ∃ x, x = d[pq]! := ⟨_, rfl⟩
          obtain ⟨y2, hy2⟩ : ∃ x, x = d[c]! := ⟨_, rfl⟩
          have l2a := S1.out.cl R (by omega) (pq) (by omega)
          have l2b := S1.out.cl R (by omega) (c) (by omega)
          rw [← hx2, ← hiN2] at l2a
          rw [← hy2, ← hjN2] at l2b
          have hc2 := S1.out.cmp HC.out (by omega) x2 y2
          have hv2 : cf x2 y2 < 0 := by rw [hx2, hy2]; exact of_decide_eq_true hlv
          have hd2 : decide (cf x2 y2 < 0) = true := decide_eq_true hv2
          clear hlv
          clear hx2 hy2 hiN2 hjN2
          go_wp2_with fail
          go_quiet_grown (first | (go_at_fn g; refine Calls.grown_of (hc2 _ _)))
          have S2 : Aside (SW enc w0 blk off d (grow (wr.drewN nq) osq)) := S1.out.grown nq osq
          clear l2a l2b hc2 S1
          generalize grow (wr.drewN nq) osq = w2 at S2 ⊢
          clear nq osq
          clear ea2 ec2
          go_wp2
          go_roundg (c - st)
          case measure => omega
          case rel => exact ⟨st, c, rfl, rfl, hlo, by omega, by omega, Nat.le_refl _, S2, I2⟩
      · obtain rfl : r = st := by omega
        obtain ⟨st, hst⟩ : ∃ s : Nat, r = s := ⟨_, rfl⟩
        subst hst
        obtain ⟨st, hst⟩ : ∃ s : Nat, s = r := ⟨_, rfl⟩
        subst hst
        have hEE : Aside _ := HE
        have hz := HE.out
        have hz2 := HN.out
        obtain ⟨en, hen⟩ : ∃ en : Nat, n - st = en := ⟨_, rfl⟩
        have henI : (n : Int) - (st : Int) = (en : Int) := by omega
        have hE : a ≤ st ∧ st ≤ m ∧ m ≤ en ∧ en ≤ b ∧ st + (en - m) = md ∧ st + en = n := by have := HN.out; omega
        have FND : Aside _ := HM.out.found HH.out (n := n) (st := st) (en := en) (by omega) ⟨by omega, by omega⟩ ⟨by omega, by omega⟩ (fun i1 i2 => by have := I.out.1 (by omega); rw [show n - 1 - (st - 1) = p - (st - 1) by have := HN.out; omega]; exact this) (fun i1 i2 => by have := I.out.2 (by omega); rw [show n - 1 - st = p - st by have := HN.out; omega]; exact this)
        clear I hen
        by_cases s1 : (st : Int) < (m : Int)
        · by_cases s2 : (m : Int) < (en : Int)
          · by_cases r1 : (a : Int) < (st : Int)
            · by_cases r2 : (st : Int) < (md : Int)
              · by_cases q1 : (md : Int) < (en : Int)
                · by_cases q2 : (en : Int) < (b : Int)
                  · first
                    | (exfalso; omega)
                    | (have HQ := HR.out st m en (st : Int) (m : Int) (en : Int) d wr rfl rfl rfl (by omega) (by omega) (by omega) HD.out S1.out
                       go_wp2_with (go_at_call 20; ((with_reducible refine HQ.mono ?_); rintro e w1 ⟨rfl, d1, hd1, hx1, sw1⟩))
                       have T1 : Aside (SW enc w0 blk off d1 w1) := sw1
                       have HX : Aside (MvI a b d d1 ∧ d1.size = N) := ⟨(rot_mv (by omega) (by omega) (by have := HD.out; omega) hx1).mono (by omega) (by omega), hd1⟩
                       have HV : Aside _ := HM.out.halves (d' := d1) (st := st) (en := en) ⟨by omega, by omega⟩ ⟨by omega, by omega⟩ (by have := HD.out; omega) hx1 FND.out.1 FND.out.2
                       rw [hE.2.2.2.2.1] at HV
                       clear sw1 hx1 hd1 FND S1 HQ
                       have HQ := HI.out a st md (a : Int) (st : Int) (md : Int) d1 w1 rfl rfl rfl (by omega) (by omega) (by omega) (by omega) HX.out.2 HV.out.1 T1.out
                       go_wp2_with (go_at_call 19; ((with_reducible refine HQ.mono ?_); rintro e w2 ⟨rfl, d2, mv2, sr2, sw2⟩))
                       have S2 : Aside (SW enc w0 blk off d2 w2) := sw2
                       have HV2 : Aside (MvI a md d1 d2 ∧ SrI bt a md d2) := ⟨mv2, sr2⟩
                       clear sw2 mv2 sr2 T1 HQ
                       have HV3 : Aside (MrgI bt pos md en b d2) := MrgI.congr HV.out.2.1 HV2.out.1.1 (fun i i1 => HV2.out.1.2.1 i (.inr i1))
                       have HQ := HI.out md en b (md : Int) (en : Int) (b : Int) d2 w2 rfl rfl rfl (by omega) (by omega) (by omega) h3 (by have := HV2.out.1.1; have := HX.out.2; omega) HV3.out S2.out
                       go_wp2_with (go_at_call 19; ((with_reducible refine HQ.mono ?_); rintro e w3 ⟨rfl, d3, mv3, sr3, sw3⟩))
                       go_end0
                       exact ⟨rfl, d3, (HX.out.1.trans (HV2.out.1.mono (Nat.le_refl _) (by omega))).trans (mv3.mono (by omega) (Nat.le_refl _)), sorted_halves HV.out.2.2 (by omega) HV2.out.1 HV2.out.2 mv3 sr3, sw3⟩)
                  · first
                    | (exfalso; omega)
                    | (have HQ := HR.out st m en (st : Int) (m : Int) (en : Int) d wr rfl rfl rfl (by omega) (by omega) (by omega) HD.out S1.out
                       go_wp2_with (go_at_call 20; ((with_reducible refine HQ.mono ?_); rintro e w1 ⟨rfl, d1, hd1, hx1, sw1⟩))
                       have T1 : Aside (SW enc w0 blk off d1 w1) := sw1
                       have HX : Aside (MvI a b d d1 ∧ d1.size = N) := ⟨(rot_mv (by omega) (by omega) (by have := HD.out; omega) hx1).mono (by omega) (by omega), hd1⟩
                       have HV : Aside _ := HM.out.halves (d' := d1) (st := st) (en := en) ⟨by omega, by omega⟩ ⟨by omega, by omega⟩ (by have := HD.out; omega) hx1 FND.out.1 FND.out.2
                       rw [hE.2.2.2.2.1] at HV
                       clear sw1 hx1 hd1 FND S1 HQ
                       have HQ := HI.out a st md (a : Int) (st : Int) (md : Int) d1 w1 rfl rfl rfl (by omega) (by omega) (by omega) (by omega) HX.out.2 HV.out.1 T1.out
                       go_wp2_with (go_at_call 19; ((with_reducible refine HQ.mono ?_); rintro e w2 ⟨rfl, d2, mv2, sr2, sw2⟩))
                       have S2 : Aside (SW enc w0 blk off d2 w2) := sw2
                       have HV2 : Aside (MvI a md d1 d2 ∧ SrI bt a md d2) := ⟨mv2, sr2⟩
                       clear sw2 mv2 sr2 T1 HQ
                       have HV3 : Aside (MrgI bt pos md en b d2) := MrgI.congr HV.out.2.1 HV2.out.1.1 (fun i i1 => HV2.out.1.2.1 i (.inr i1))
                       go_end0
                       exact ⟨rfl, d2, HX.out.1.trans (HV2.out.1.mono (Nat.le_refl _) (by omega)), sorted_halves HV.out.2.2 (by omega) HV2.out.1 HV2.out.2 (MvI.refl md b d2) (HV3.out.sorted (by omega)), S2.out⟩)
                · first
                  | (exfalso; omega)
                  | (have HQ := HR.out st m en (st : Int) (m : Int) (en : Int) d wr rfl rfl rfl (by omega) (by omega) (by omega) HD.out S1.out
                     go_wp2_with (go_at_call 20; ((with_reducible refine HQ.mono ?_); rintro e w1 ⟨rfl, d1, hd1, hx1, sw1⟩))
                     have T1 : Aside (SW enc w0 blk off d1 w1) := sw1
                     have HX : Aside (MvI a b d d1 ∧ d1.size = N) := ⟨(rot_mv (by omega) (by omega) (by have := HD.out; omega) hx1).mono (by omega) (by omega), hd1⟩
                     have HV : Aside _ := HM.out.halves (d' := d1) (st := st) (en := en) ⟨by omega, by omega⟩ ⟨by omega, by omega⟩ (by have := HD.out; omega) hx1 FND.out.1 FND.out.2
                     rw [hE.2.2.2.2.1] at HV
                     clear sw1 hx1 hd1 FND S1 HQ
                     have HQ := HI.out a st md (a : Int) (st : Int) (md : Int) d1 w1 rfl rfl rfl (by omega) (by omega) (by omega) (by omega) HX.out.2 HV.out.1 T1.out
                     go_wp2_with (go_at_call 19; ((with_reducible refine HQ.mono ?_); rintro e w2 ⟨rfl, d2, mv2, sr2, sw2⟩))
                     have S2 : Aside (SW enc w0 blk off d2 w2) := sw2
                     have HV2 : Aside (MvI a md d1 d2 ∧ SrI bt a md d2) := ⟨mv2, sr2⟩
                     clear sw2 mv2 sr2 T1 HQ
                     have HV3 : Aside (MrgI bt pos md en b d2) := MrgI.congr HV.out.2.1 HV2.out.1.1 (fun i i1 => HV2.out.1.2.1 i (.inr i1))
                     go_end0
                     exact ⟨rfl, d2, HX.out.1.trans (HV2.out.1.mono (Nat.le_refl _) (by omega)), sorted_halves HV.out.2.2 (by omega) HV2.out.1 HV2.out.2 (MvI.refl md b d2) (HV3.out.sorted (by omega)), S2.out⟩)
              · by_cases q1 : (md : Int) < (en : Int)
                · by_cases q2 : (en : Int) < (b : Int)
                  · first
                    | (exfalso; omega)
                    | (have HQ := HR.out st m en (st : Int) (m : Int) (en : Int) d wr rfl rfl rfl (by omega) (by omega) (by omega) HD.out S1.out
                       go_wp2_with (go_at_call 20; ((with_reducible refine HQ.mono ?_); rintro e w1 ⟨rfl, d1, hd1, hx1, sw1⟩))
                       have T1 : Aside (SW enc w0 blk off d1 w1) := sw1
                       have HX : Aside (MvI a b d d1 ∧ d1.size = N) := ⟨(rot_mv (by omega) (by omega) (by have := HD.out; omega) hx1).mono (by omega) (by omega), hd1⟩
                       have HV : Aside _ := HM.out.halves (d' := d1) (st := st) (en := en) ⟨by omega, by omega⟩ ⟨by omega, by omega⟩ (by have := HD.out; omega) hx1 FND.out.1 FND.out.2
                       rw [hE.2.2.2.2.1] at HV
                       clear sw1 hx1 hd1 FND S1 HQ
                       have HV2 : Aside (MvI a md d1 d1 ∧ SrI bt a md d1) := ⟨MvI.refl _ _ _, HV.out.1.sorted (by omega)⟩
                       have HV3 : Aside (MrgI bt pos md en b d1) := MrgI.congr HV.out.2.1 HV2.out.1.1 (fun i i1 => HV2.out.1.2.1 i (.inr i1))
                       have HQ := HI.out md en b (md : Int) (en : Int) (b : Int) d1 w1 rfl rfl rfl (by omega) (by omega) (by omega) h3 (by have := HV2.out.1.1; have := HX.out.2; omega) HV3.out T1.out
                       go_wp2_with (go_at_call 19; ((with_reducible refine HQ.mono ?_); rintro e w3 ⟨rfl, d3, mv3, sr3, sw3⟩))
                       go_end0
                       exact ⟨rfl, d3, (HX.out.1.trans (HV2.out.1.mono (Nat.le_refl _) (by omega))).trans (mv3.mono (by omega) (Nat.le_refl _)), sorted_halves HV.out.2.2 (by omega) HV2.out.1 HV2.out.2 mv3 sr3, sw3⟩)
                  · first
                    | (exfalso; omega)
                    | (have HQ := HR.out st m en (st : Int) (m : Int) (en : Int) d wr rfl rfl rfl (by omega) (by omega) (by omega) HD.out S1.out
                       go_wp2_with (go_at_call 20; ((with_reducible refine HQ.mono ?_); rintro e w1 ⟨rfl, d1, hd1, hx1, sw1⟩))
                       have T1 : Aside (SW enc w0 blk off d1 w1) := sw1
                       have HX : Aside (MvI a b d d1 ∧ d1.size = N) := ⟨(rot_mv (by omega) (by omega) (by have := HD.out; omega) hx1).mono (by omega) (by omega), hd1⟩
                       have HV : Aside _ := HM.out.halves (d' := d1) (st := st) (en := en) ⟨by omega, by omega⟩ ⟨by omega, by omega⟩ (by have := HD.out; omega) hx1 FND.out.1 FND.out.2
                       rw [hE.2.2.2.2.1] at HV
                       clear sw1 hx1 hd1 FND S1 HQ
                       have HV2 : Aside (MvI a md d1 d1 ∧ SrI bt a md d1) := ⟨MvI.refl _ _ _, HV.out.1.sorted (by omega)⟩
                       have HV3 : Aside (MrgI bt pos md en b d1) := MrgI.congr HV.out.2.1 HV2.out.1.1 (fun i i1 => HV2.out.1.2.1 i (.inr i1))
                       go_end0
                       exact ⟨rfl, d1, HX.out.1.trans (HV2.out.1.mono (Nat.le_refl _) (by omega)), sorted_halves HV.out.2.2 (by omega) HV2.out.1 HV2.out.2 (MvI.refl md b d1) (HV3.out.sorted (by omega)), T1.out⟩)
                · first
                  | (exfalso; omega)
                  | (have HQ := HR.out st m en (st : Int) (m : Int) (en : Int) d wr rfl rfl rfl (by omega) (by omega) (by omega) HD.out S1.out
                     go_wp2_with (go_at_call 20; ((with_reducible refine HQ.mono ?_); rintro e w1 ⟨rfl, d1, hd1, hx1, sw1⟩))
                     have T1 : Aside (SW enc w0 blk off d1 w1) := sw1
                     have HX : Aside (MvI a b d d1 ∧ d1.size = N) := ⟨(rot_mv (by omega) (by omega) (by have := HD.out; omega) hx1).mono (by omega) (by omega), hd1⟩
                     have HV : Aside _ := HM.out.halves (d' := d1) (st := st) (en := en) ⟨by omega, by omega⟩ ⟨by omega, by omega⟩ (by have := HD.out; omega) hx1 FND.out.1 FND.out.2
                     rw [hE.2.2.2.2.1] at HV
                     clear sw1 hx1 hd1 FND S1 HQ
                     have HV2 : Aside (MvI a md d1 d1 ∧ SrI bt a md d1) := ⟨MvI.refl _ _ _, HV.out.1.sorted (by omega)⟩
                     have HV3 : Aside (MrgI bt pos md en b d1) := MrgI.congr HV.out.2.1 HV2.out.1.1 (fun i i1 => HV2.out.1.2.1 i (.inr i1))
                     go_end0
                     exact ⟨rfl, d1, HX.out.1.trans (HV2.out.1.mono (Nat.le_refl _) (by omega)), sorted_halves HV.out.2.2 (by omega) HV2.out.1 HV2.out.2 (MvI.refl md b d1) (HV3.out.sorted (by omega)), T1.out⟩)
            · by_cases q1 : (md : Int) < (en : Int)
              · by_cases q2 : (en : Int) < (b : Int)
                · first
                  | (exfalso; omega)
                  | (have HQ := HR.out st m en (st : Int) (m : Int) (en : Int) d wr rfl rfl rfl (by omega) (by omega) (by omega) HD.out S1.out
                     go_wp2_with (go_at_call 20; ((with_reducible refine HQ.mono ?_); rintro e w1 ⟨rfl, d1, hd1, hx1, sw1⟩))
                     have T1 : Aside (SW enc w0 blk off d1 w1) := sw1
                     have HX : Aside (MvI a b d d1 ∧ d1.size = N) := ⟨(rot_mv (by omega) (by omega) (by have := HD.out; omega) hx1).mono (by omega) (by omega), hd1⟩
                     have HV : Aside _ := HM.out.halves (d' := d1) (st := st) (en := en) ⟨by omega, by omega⟩ ⟨by omega, by omega⟩ (by have := HD.out; omega) hx1 FND.out.1 FND.out.2
                     rw [hE.2.2.2.2.1] at HV
                     clear sw1 hx1 hd1 FND S1 HQ
                     have HV2 : Aside (MvI a md d1 d1 ∧ SrI bt a md d1) := ⟨MvI.refl _ _ _, HV.out.1.sorted (by omega)⟩
                     have HV3 : Aside (MrgI bt pos md en b d1) := MrgI.congr HV.out.2.1 HV2.out.1.1 (fun i i1 => HV2.out.1.2.1 i (.inr i1))
                     have HQ := HI.out md en b (md : Int) (en : Int) (b : Int) d1 w1 rfl rfl rfl (by omega) (by omega) (by omega) h3 (by have := HV2.out.1.1; have := HX.out.2; omega) HV3.out T1.out
                     go_wp2_with (go_at_call 19; ((with_reducible refine HQ.mono ?_); rintro e w3 ⟨rfl, d3, mv3, sr3, sw3⟩))
                     go_end0
                     exact ⟨rfl, d3, (HX.out.1.trans (HV2.out.1.mono (Nat.le_refl _) (by omega))).trans (mv3.mono (by omega) (Nat.le_refl _)), sorted_halves HV.out.2.2 (by omega) HV2.out.1 HV2.out.2 mv3 sr3, sw3⟩)
                · first
                  | (exfalso; omega)
                  | (have HQ := HR.out st m en (st : Int) (m : Int) (en : Int) d wr rfl rfl rfl (by omega) (by omega) (by omega) HD.out S1.out
                     go_wp2_with (go_at_call 20; ((with_reducible refine HQ.mono ?_); rintro e w1 ⟨rfl, d1, hd1, hx1, sw1⟩))
                     have T1 : Aside (SW enc w0 blk off d1 w1) := sw1
                     have HX : Aside (MvI a b d d1 ∧ d1.size = N) := ⟨(rot_mv (by omega) (by omega) (by have := HD.out; omega) hx1).mono (by omega) (by omega), hd1⟩
                     have HV : Aside _ := HM.out.halves (d' := d1) (st := st) (en := en) ⟨by omega, by omega⟩ ⟨by omega, by omega⟩ (by have := HD.out; omega) hx1 FND.out.1 FND.out.2
                     rw [hE.2.2.2.2.1] at HV
                     clear sw1 hx1 hd1 FND S1 HQ
                     have HV2 : Aside (MvI a md d1 d1 ∧ SrI bt a md d1) := ⟨MvI.refl _ _ _, HV.out.1.sorted (by omega)⟩
                     have HV3 : Aside (MrgI bt pos md en b d1) := MrgI.congr HV.out.2.1 HV2.out.1.1 (fun i i1 => HV2.out.1.2.1 i (.inr i1))
                     go_end0
                     exact ⟨rfl, d1, HX.out.1.trans (HV2.out.1.mono (Nat.le_refl _) (by omega)), sorted_halves HV.out.2.2 (by omega) HV2.out.1 HV2.out.2 (MvI.refl md b d1) (HV3.out.sorted (by omega)), T1.out⟩)
              · first
                | (exfalso; omega)
                | (have HQ := HR.out st m en (st : Int) (m : Int) (en : Int) d wr rfl rfl rfl (by omega) (by omega) (by omega) HD.out S1.out
                   go_wp2_with (go_at_call 20; ((with_reducible refine HQ.mono ?_); rintro e w1 ⟨rfl, d1, hd1, hx1, sw1⟩))
                   have T1 : Aside (SW enc w0 blk off d1 w1) := sw1
                   have HX : Aside (MvI a b d d1 ∧ d1.size = N) := ⟨(rot_mv (by omega) (by omega) (by have := HD.out; omega) hx1).mono (by omega) (by omega), hd1⟩
                   have HV : Aside _ := HM.out.halves (d' := d1) (st := st) (en := en) ⟨by omega, by omega⟩ ⟨by omega, by omega⟩ (by have := HD.out; omega) hx1 FND.out.1 FND.out.2
                   rw [hE.2.2.2.2.1] at HV
                   clear sw1 hx1 hd1 FND S1 HQ
                   have HV2 : Aside (MvI a md d1 d1 ∧ SrI bt a md d1) := ⟨MvI.refl _ _ _, HV.out.1.sorted (by omega)⟩
                   have HV3 : Aside (MrgI bt pos md en b d1) := MrgI.congr HV.out.2.1 HV2.out.1.1 (fun i i1 => HV2.out.1.2.1 i (.inr i1))
                   go_end0
                   exact ⟨rfl, d1, HX.out.1.trans (HV2.out.1.mono (Nat.le_refl _) (by omega)), sorted_halves HV.out.2.2 (by omega) HV2.out.1 HV2.out.2 (MvI.refl md b d1) (HV3.out.sorted (by omega)), T1.out⟩)
          · by_cases r1 : (a : Int) < (st : Int)
            · by_cases r2 : (st : Int) < (md : Int)
              · by_cases q1 : (md : Int) < (en : Int)
                · by_cases q2 : (en : Int) < (b : Int)
                  · first
                    | (exfalso; omega)
                    | (have HX : Aside (MvI a b d d ∧ d.size = N) := ⟨MvI.refl _ _ _, HD.out⟩
                       have HV : Aside _ := HM.out.halves (d' := d) (st := st) (en := en) ⟨by omega, by omega⟩ ⟨by omega, by omega⟩ rfl (fun x => rot_none (fun i => d[i]!) (by omega) (by omega) (by omega) x) FND.out.1 FND.out.2
                       rw [hE.2.2.2.2.1] at HV
                       clear FND
                       have HQ := HI.out a st md (a : Int) (st : Int) (md : Int) d wr rfl rfl rfl (by omega) (by omega) (by omega) (by omega) HX.out.2 HV.out.1 S1.out
                       go_wp2_with (go_at_call 19; ((with_reducible refine HQ.mono ?_); rintro e w2 ⟨rfl, d2, mv2, sr2, sw2⟩))
                       have S2 : Aside (SW enc w0 blk off d2 w2) := sw2
                       have HV2 : Aside (MvI a md d d2 ∧ SrI bt a md d2) := ⟨mv2, sr2⟩
                       clear sw2 mv2 sr2 S1 HQ
                       have HV3 : Aside (MrgI bt pos md en b d2) := MrgI.congr HV.out.2.1 HV2.out.1.1 (fun i i1 => HV2.out.1.2.1 i (.inr i1))
                       have HQ := HI.out md en b (md : Int) (en : Int) (b : Int) d2 w2 rfl rfl rfl (by omega) (by omega) (by omega) h3 (by have := HV2.out.1.1; have := HX.out.2; omega) HV3.out S2.out
                       go_wp2_with (go_at_call 19; ((with_reducible refine HQ.mono ?_); rintro e w3 ⟨rfl, d3, mv3, sr3, sw3⟩))
                       go_end0
                       exact ⟨rfl, d3, (HX.out.1.trans (HV2.out.1.mono (Nat.le_refl _) (by omega))).trans (mv3.mono (by omega) (Nat.le_refl _)), sorted_halves HV.out.2.2 (by omega) HV2.out.1 HV2.out.2 mv3 sr3, sw3⟩)
                  · first
                    | (exfalso; omega)
                    | (have HX : Aside (MvI a b d d ∧ d.size = N) := ⟨MvI.refl _ _ _, HD.out⟩
                       have HV : Aside _ := HM.out.halves (d' := d) (st := st) (en := en) ⟨by omega, by omega⟩ ⟨by omega, by omega⟩ rfl (fun x => rot_none (fun i => d[i]!) (by omega) (by omega) (by omega) x) FND.out.1 FND.out.2
                       rw [hE.2.2.2.2.1] at HV
                       clear FND
                       have HQ := HI.out a st md (a : Int) (st : Int) (md : Int) d wr rfl rfl rfl (by omega) (by omega) (by omega) (by omega) HX.out.2 HV.out.1 S1.out
                       go_wp2_with (go_at_call 19; ((with_reducible refine HQ.mono ?_); rintro e w2 ⟨rfl, d2, mv2, sr2, sw2⟩))
                       have S2 : Aside (SW enc w0 blk off d2 w2) := sw2
                       have HV2 : Aside (MvI a md d d2 ∧ SrI bt a md d2) := ⟨mv2, sr2⟩
                       clear sw2 mv2 sr2 S1 HQ
                       have HV3 : Aside (MrgI bt pos md en b d2) := MrgI.congr HV.out.2.1 HV2.out.1.1 (fun i i1 => HV2.out.1.2.1 i (.inr i1))
                       go_end0
                       exact ⟨rfl, d2, HX.out.1.trans (HV2.out.1.mono (Nat.le_refl _) (by omega)), sorted_halves HV.out.2.2 (by omega) HV2.out.1 HV2.out.2 (MvI.refl md b d2) (HV3.out.sorted (by omega)), S2.out⟩)
                · first
                  | (exfalso; omega)
                  | (have HX : Aside (MvI a b d d ∧ d.size = N) := ⟨MvI.refl _ _ _, HD.out⟩
                     have HV : Aside _ := HM.out.halves (d' := d) (st := st) (en := en) ⟨by omega, by omega⟩ ⟨by omega, by omega⟩ rfl (fun x => rot_none (fun i => d[i]!) (by omega) (by omega) (by omega) x) FND.out.1 FND.out.2
                     rw [hE.2.2.2.2.1] at HV
                     clear FND
                     have HQ := HI.out a st md (a : Int) (st : Int) (md : Int) d wr rfl rfl rfl (by omega) (by omega) (by omega) (by omega) HX.out.2 HV.out.1 S1.out
                     go_wp2_with (go_at_call 19; ((with_reducible refine HQ.mono ?_); rintro e w2 ⟨rfl, d2, mv2, sr2, sw2⟩))
                     have S2 : Aside (SW enc w0 blk off d2 w2) := sw2
                     have HV2 : Aside (MvI a md d d2 ∧ SrI bt a md d2) := ⟨mv2, sr2⟩
                     clear sw2 mv2 sr2 S1 HQ
                     have HV3 : Aside (MrgI bt pos md en b d2) := MrgI.congr HV.out.2.1 HV2.out.1.1 (fun i i1 => HV2.out.1.2.1 i (.inr i1))
                     go_end0
                     exact ⟨rfl, d2, HX.out.1.trans (HV2.out.1.mono (Nat.le_refl _) (by omega)), sorted_halves HV.out.2.2 (by omega) HV2.out.1 HV2.out.2 (MvI.refl md b d2) (HV3.out.sorted (by omega)), S2.out⟩)
              · by_cases q1 : (md : Int) < (en : Int)
                · by_cases q2 : (en : Int) < (b : Int)
                  · first
                    | (exfalso; omega)
                    | (have HX : Aside (MvI a b d d ∧ d.size = N) := ⟨MvI.refl _ _ _, HD.out⟩
                       have HV : Aside _ := HM.out.halves (d' := d) (st := st) (en := en) ⟨by omega, by omega⟩ ⟨by omega, by omega⟩ rfl (fun x => rot_none (fun i => d[i]!) (by omega) (by omega) (by omega) x) FND.out.1 FND.out.2
                       rw [hE.2.2.2.2.1] at HV
                       clear FND
                       have HV2 : Aside (MvI a md d d ∧ SrI bt a md d) := ⟨MvI.refl _ _ _, HV.out.1.sorted (by omega)⟩
                       have HV3 : Aside (MrgI bt pos md en b d) := MrgI.congr HV.out.2.1 HV2.out.1.1 (fun i i1 => HV2.out.1.2.1 i (.inr i1))
                       have HQ := HI.out md en b (md : Int) (en : Int) (b : Int) d wr rfl rfl rfl (by omega) (by omega) (by omega) h3 (by have := HV2.out.1.1; have := HX.out.2; omega) HV3.out S1.out
                       go_wp2_with (go_at_call 19; ((with_reducible refine HQ.mono ?_); rintro e w3 ⟨rfl, d3, mv3, sr3, sw3⟩))
                       go_end0
                       exact ⟨rfl, d3, (HX.out.1.trans (HV2.out.1.mono (Nat.le_refl _) (by omega))).trans (mv3.mono (by omega) (Nat.le_refl _)), sorted_halves HV.out.2.2 (by omega) HV2.out.1 HV2.out.2 mv3 sr3, sw3⟩)
                  · first
                    | (exfalso; omega)
                    | (have HX : Aside (MvI a b d d ∧ d.size = N) := ⟨MvI.refl _ _ _, HD.out⟩
                       have HV : Aside _ := HM.out.halves (d' := d) (st := st) (en := en) ⟨by omega, by omega⟩ ⟨by omega, by omega⟩ rfl (fun x => rot_none (fun i => d[i]!) (by omega) (by omega) (by omega) x) FND.out.1 FND.out.2
                       rw [hE.2.2.2.2.1] at HV
                       clear FND
                       have HV2 : Aside (MvI a md d d ∧ SrI bt a md d) := ⟨MvI.refl _ _ _, HV.out.1.sorted (by omega)⟩
                       have HV3 : Aside (MrgI bt pos md en b d) := MrgI.congr HV.out.2.1 HV2.out.1.1 (fun i i1 => HV2.out.1.2.1 i (.inr i1))
                       go_wp2
                       go_end0
                       exact ⟨rfl, d, HX.out.1.trans (HV2.out.1.mono (Nat.le_refl _) (by omega)), sorted_halves HV.out.2.2 (by omega) HV2.out.1 HV2.out.2 (MvI.refl md b d) (HV3.out.sorted (by omega)), S1.out⟩)
                · first
                  | (exfalso; omega)
                  | (have HX : Aside (MvI a b d d ∧ d.size = N) := ⟨MvI.refl _ _ _, HD.out⟩
                     have HV : Aside _ := HM.out.halves (d' := d) (st := st) (en := en) ⟨by omega, by omega⟩ ⟨by omega, by omega⟩ rfl (fun x => rot_none (fun i => d[i]!) (by omega) (by omega) (by omega) x) FND.out.1 FND.out.2
                     rw [hE.2.2.2.2.1] at HV
                     clear FND
                     have HV2 : Aside (MvI a md d d ∧ SrI bt a md d) := ⟨MvI.refl _ _ _, HV.out.1.sorted (by omega)⟩
                     have HV3 : Aside (MrgI bt pos md en b d) := MrgI.congr HV.out.2.1 HV2.out.1.1 (fun i i1 => HV2.out.1.2.1 i (.inr i1))
                     go_wp2
                     go_end0
                     exact ⟨rfl, d, HX.out.1.trans (HV2.out.1.mono (Nat.le_refl _) (by omega)), sorted_halves HV.out.2.2 (by omega) HV2.out.1 HV2.out.2 (MvI.refl md b d) (HV3.out.sorted (by omega)), S1.out⟩)
            · by_cases q1 : (md : Int) < (en : Int)
              · by_cases q2 : (en : Int) < (b : Int)
                · first
                  | (exfalso; omega)
                  | (have HX : Aside (MvI a b d d ∧ d.size = N) := ⟨MvI.refl _ _ _, HD.out⟩
                     have HV : Aside _ := HM.out.halves (d' := d) (st := st) (en := en) ⟨by omega, by omega⟩ ⟨by omega, by omega⟩ rfl (fun x => rot_none (fun i => d[i]!) (by omega) (by omega) (by omega) x) FND.out.1 FND.out.2
                     rw [hE.2.2.2.2.1] at HV
                     clear FND
                     have HV2 : Aside (MvI a md d d ∧ SrI bt a md d) := ⟨MvI.refl _ _ _, HV.out.1.sorted (by omega)⟩
                     have HV3 : Aside (MrgI bt pos md en b d) := MrgI.congr HV.out.2.1 HV2.out.1.1 (fun i i1 => HV2.out.1.2.1 i (.inr i1))
                     have HQ := HI.out md en b (md : Int) (en : Int) (b : Int) d wr rfl rfl rfl (by omega) (by omega) (by omega) h3 (by have := HV2.out.1.1; have := HX.out.2; omega) HV3.out S1.out
                     go_wp2_with (go_at_call 19; ((with_reducible refine HQ.mono ?_); rintro e w3 ⟨rfl, d3, mv3, sr3, sw3⟩))
                     go_end0
                     exact ⟨rfl, d3, (HX.out.1.trans (HV2.out.1.mono (Nat.le_refl _) (by omega))).trans (mv3.mono (by omega) (Nat.le_refl _)), sorted_halves HV.out.2.2 (by omega) HV2.out.1 HV2.out.2 mv3 sr3, sw3⟩)
                · first
                  | (exfalso; omega)
                  | (have HX : Aside (MvI a b d d ∧ d.size = N) := ⟨MvI.refl _ _ _, HD.out⟩
                     have HV : Aside _ := HM.out.halves (d' := d) (st := st) (en := en) ⟨by omega, by omega⟩ ⟨by omega, by omega⟩ rfl (fun x => rot_none (fun i => d[i]!) (by omega) (by omega) (by omega) x) FND.out.1 FND.out.2
                     rw [hE.2.2.2.2.1] at HV
                     clear FND
                     have HV2 : Aside (MvI a md d d ∧ SrI bt a md d) := ⟨MvI.refl _ _ _, HV.out.1.sorted (by omega)⟩
                     have HV3 : Aside (MrgI bt pos md en b d) := MrgI.congr HV.out.2.1 HV2.out.1.1 (fun i i1 => HV2.out.1.2.1 i (.inr i1))
                     go_wp2
                     go_end0
                     exact ⟨rfl, d, HX.out.1.trans (HV2.out.1.mono (Nat.le_refl _) (by omega)), sorted_halves HV.out.2.2 (by omega) HV2.out.1 HV2.out.2 (MvI.refl md b d) (HV3.out.sorted (by omega)), S1.out⟩)
              · first
                | (exfalso; omega)
                | (have HX : Aside (MvI a b d d ∧ d.size = N) := ⟨MvI.refl _ _ _, HD.out⟩
                   have HV : Aside _ := HM.out.halves (d' := d) (st := st) (en := en) ⟨by omega, by omega⟩ ⟨by omega, by omega⟩ rfl (fun x => rot_none (fun i => d[i]!) (by omega) (by omega) (by omega) x) FND.out.1 FND.out.2
                   rw [hE.2.2.2.2.1] at HV
                   clear FND
                   have HV2 : Aside (MvI a md d d ∧ SrI bt a md d) := ⟨MvI.refl _ _ _, HV.out.1.sorted (by omega)⟩
                   have HV3 : Aside (MrgI bt pos md en b d) := MrgI.congr HV.out.2.1 HV2.out.1.1 (fun i i1 => HV2.out.1.2.1 i (.inr i1))
                   go_wp2
                   go_end0
                   exact ⟨rfl, d, HX.out.1.trans (HV2.out.1.mono (Nat.le_refl _) (by omega)), sorted_halves HV.out.2.2 (by omega) HV2.out.1 HV2.out.2 (MvI.refl md b d) (HV3.out.sorted (by omega)), S1.out⟩)
        · by_cases r1 : (a : Int) < (st : Int)
          · by_cases r2 : (st : Int) < (md : Int)
            · by_cases q1 : (md : Int) < (en : Int)
              · by_cases q2 : (en : Int) < (b : Int)
                · first
                  | (exfalso; omega)
                  | (have HX : Aside (MvI a b d d ∧ d.size = N) := ⟨MvI.refl _ _ _, HD.out⟩
                     have HV : Aside _ := HM.out.halves (d' := d) (st := st) (en := en) ⟨by omega, by omega⟩ ⟨by omega, by omega⟩ rfl (fun x => rot_none (fun i => d[i]!) (by omega) (by omega) (by omega) x) FND.out.1 FND.out.2
                     rw [hE.2.2.2.2.1] at HV
                     clear FND
                     have HQ := HI.out a st md (a : Int) (st : Int) (md : Int) d wr rfl rfl rfl (by omega) (by omega) (by omega) (by omega) HX.out.2 HV.out.1 S1.out
                     go_wp2_with (go_at_call 19; ((with_reducible refine HQ.mono ?_); rintro e w2 ⟨rfl, d2, mv2, sr2, sw2⟩))
                     have S2 : Aside (SW enc w0 blk off d2 w2) := sw2
                     have HV2 : Aside (MvI a md d d2 ∧ SrI bt a md d2) := ⟨mv2, sr2⟩
                     clear sw2 mv2 sr2 S1 HQ
                     have HV3 : Aside (MrgI bt pos md en b d2) := MrgI.congr HV.out.2.1 HV2.out.1.1 (fun i i1 => HV2.out.1.2.1 i (.inr i1))
                     have HQ := HI.out md en b (md : Int) (en : Int) (b : Int) d2 w2 rfl rfl rfl (by omega) (by omega) (by omega) h3 (by have := HV2.out.1.1; have := HX.out.2; omega) HV3.out S2.out
                     go_wp2_with (go_at_call 19; ((with_reducible refine HQ.mono ?_); rintro e w3 ⟨rfl, d3, mv3, sr3, sw3⟩))
                     go_end0
                     exact ⟨rfl, d3, (HX.out.1.trans (HV2.out.1.mono (Nat.le_refl _) (by omega))).trans (mv3.mono (by omega) (Nat.le_refl _)), sorted_halves HV.out.2.2 (by omega) HV2.out.1 HV2.out.2 mv3 sr3, sw3⟩)
                · first
                  | (exfalso; omega)
                  | (have HX : Aside (MvI a b d d ∧ d.size = N) := ⟨MvI.refl _ _ _, HD.out⟩
                     have HV : Aside _ := HM.out.halves (d' := d) (st := st) (en := en) ⟨by omega, by omega⟩ ⟨by omega, by omega⟩ rfl (fun x => rot_none (fun i => d[i]!) (by omega) (by omega) (by omega) x) FND.out.1 FND.out.2
                     rw [hE.2.2.2.2.1] at HV
                     clear FND
                     have HQ := HI.out a st md (a : Int) (st : Int) (md : Int) d wr rfl rfl rfl (by omega) (by omega) (by omega) (by omega) HX.out.2 HV.out.1 S1.out
                     go_wp2_with (go_at_call 19; ((with_reducible refine HQ.mono ?_); rintro e w2 ⟨rfl, d2, mv2, sr2, sw2⟩))
                     have S2 : Aside (SW enc w0 blk off d2 w2) := sw2
                     have HV2 : Aside (MvI a md d d2 ∧ SrI bt a md d2) := ⟨mv2, sr2⟩
                     clear sw2 mv2 sr2 S1 HQ
                     have HV3 : Aside (MrgI bt pos md en b d2) := MrgI.congr HV.out.2.1 HV2.out.1.1 (fun i i1 => HV2.out.1.2.1 i (.inr i1))
                     go_end0
                     exact ⟨rfl, d2, HX.out.1.trans (HV2.out.1.mono (Nat.le_refl _) (by omega)), sorted_halves HV.out.2.2 (by omega) HV2.out.1 HV2.out.2 (MvI.refl md b d2) (HV3.out.sorted (by omega)), S2.out⟩)
              · first
                | (exfalso; omega)
                | (have HX : Aside (MvI a b d d ∧ d.size = N) := ⟨MvI.refl _ _ _, HD.out⟩
                   have HV : Aside _ := HM.out.halves (d' := d) (st := st) (en := en) ⟨by omega, by omega⟩ ⟨by omega, by omega⟩ rfl (fun x => rot_none (fun i => d[i]!) (by omega) (by omega) (by omega) x) FND.out.1 FND.out.2
                   rw [hE.2.2.2.2.1] at HV
                   clear FND
                   have HQ := HI.out a st md (a : Int) (st : Int) (md : Int) d wr rfl rfl rfl (by omega) (by omega) (by omega) (by omega) HX.out.2 HV.out.1 S1.out
                   go_wp2_with (go_at_call 19; ((with_reducible refine HQ.mono ?_); rintro e w2 ⟨rfl, d2, mv2, sr2, sw2⟩))
                   have S2 : Aside (SW enc w0 blk off d2 w2) := sw2
                   have HV2 : Aside (MvI a md d d2 ∧ SrI bt a md d2) := ⟨mv2, sr2⟩
                   clear sw2 mv2 sr2 S1 HQ
                   have HV3 : Aside (MrgI bt pos md en b d2) := MrgI.congr HV.out.2.1 HV2.out.1.1 (fun i i1 => HV2.out.1.2.1 i (.inr i1))
                   go_end0
                   exact ⟨rfl, d2, HX.out.1.trans (HV2.out.1.mono (Nat.le_refl _) (by omega)), sorted_halves HV.out.2.2 (by omega) HV2.out.1 HV2.out.2 (MvI.refl md b d2) (HV3.out.sorted (by omega)), S2.out⟩)
            · by_cases q1 : (md : Int) < (en : Int)
              · by_cases q2 : (en : Int) < (b : Int)
                · first
                  | (exfalso; omega)
                  | (have HX : Aside (MvI a b d d ∧ d.size = N) := ⟨MvI.refl _ _ _, HD.out⟩
                     have HV : Aside _ := HM.out.halves (d' := d) (st := st) (en := en) ⟨by omega, by omega⟩ ⟨by omega, by omega⟩ rfl (fun x => rot_none (fun i => d[i]!) (by omega) (by omega) (by omega) x) FND.out.1 FND.out.2
                     rw [hE.2.2.2.2.1] at HV
                     clear FND
                     have HV2 : Aside (MvI a md d d ∧ SrI bt a md d) := ⟨MvI.refl _ _ _, HV.out.1.sorted (by omega)⟩
                     have HV3 : Aside (MrgI bt pos md en b d) := MrgI.congr HV.out.2.1 HV2.out.1.1 (fun i i1 => HV2.out.1.2.1 i (.inr i1))
                     have HQ := HI.out md en b (md : Int) (en : Int) (b : Int) d wr rfl rfl rfl (by omega) (by omega) (by omega) h3 (by have := HV2.out.1.1; have := HX.out.2; omega) HV3.out S1.out
                     go_wp2_with (go_at_call 19; ((with_reducible refine HQ.mono ?_); rintro e w3 ⟨rfl, d3, mv3, sr3, sw3⟩))
                     go_end0
                     exact ⟨rfl, d3, (HX.out.1.trans (HV2.out.1.mono (Nat.le_refl _) (by omega))).trans (mv3.mono (by omega) (Nat.le_refl _)), sorted_halves HV.out.2.2 (by omega) HV2.out.1 HV2.out.2 mv3 sr3, sw3⟩)
                · first
                  | (exfalso; omega)
                  | (have HX : Aside (MvI a b d d ∧ d.size = N) := ⟨MvI.refl _ _ _, HD.out⟩
                     have HV : Aside _ := HM.out.halves (d' := d) (st := st) (en := en) ⟨by omega, by omega⟩ ⟨by omega, by omega⟩ rfl (fun x => rot_none (fun i => d[i]!) (by omega) (by omega) (by omega) x) FND.out.1 FND.out.2
                     rw [hE.2.2.2.2.1] at HV
                     clear FND
                     have HV2 : Aside (MvI a md d d ∧ SrI bt a md d) := ⟨MvI.refl _ _ _, HV.out.1.sorted (by omega)⟩
                     have HV3 : Aside (MrgI bt pos md en b d) := MrgI.congr HV.out.2.1 HV2.out.1.1 (fun i i1 => HV2.out.1.2.1 i (.inr i1))
                     go_wp2
                     go_end0
                     exact ⟨rfl, d, HX.out.1.trans (HV2.out.1.mono (Nat.le_refl _) (by omega)), sorted_halves HV.out.2.2 (by omega) HV2.out.1 HV2.out.2 (MvI.refl md b d) (HV3.out.sorted (by omega)), S1.out⟩)
              · first
                | (exfalso; omega)
                | (have HX : Aside (MvI a b d d ∧ d.size = N) := ⟨MvI.refl _ _ _, HD.out⟩
                   have HV : Aside _ := HM.out.halves (d' := d) (st := st) (en := en) ⟨by omega, by omega⟩ ⟨by omega, by omega⟩ rfl (fun x => rot_none (fun i => d[i]!) (by omega) (by omega) (by omega) x) FND.out.1 FND.out.2
                   rw [hE.2.2.2.2.1] at HV
                   clear FND
                   have HV2 : Aside (MvI a md d d ∧ SrI bt a md d) := ⟨MvI.refl _ _ _, HV.out.1.sorted (by omega)⟩
                   have HV3 : Aside (MrgI bt pos md en b d) := MrgI.congr HV.out.2.1 HV2.out.1.1 (fun i i1 => HV2.out.1.2.1 i (.inr i1))
                   go_wp2
                   go_end0
                   exact ⟨rfl, d, HX.out.1.trans (HV2.out.1.mono (Nat.le_refl _) (by omega)), sorted_halves HV.out.2.2 (by omega) HV2.out.1 HV2.out.2 (MvI.refl md b d) (HV3.out.sorted (by omega)), S1.out⟩)
          · by_cases q1 : (md : Int) < (en : Int)
            · by_cases q2 : (en : Int) < (b : Int)
              · first
                | (exfalso; omega)
                | (have HX : Aside (MvI a b d d ∧ d.size = N) := ⟨MvI.refl _ _ _, HD.out⟩
                   have HV : Aside _ := HM.out.halves (d' := d) (st := st) (en := en) ⟨by omega, by omega⟩ ⟨by omega, by omega⟩ rfl (fun x => rot_none (fun i => d[i]!) (by omega) (by omega) (by omega) x) FND.out.1 FND.out.2
                   rw [hE.2.2.2.2.1] at HV
                   clear FND
                   have HV2 : Aside (MvI a md d d ∧ SrI bt a md d) := ⟨MvI.refl _ _ _, HV.out.1.sorted (by omega)⟩
                   have HV3 : Aside (MrgI bt pos md en b d) := MrgI.congr HV.out.2.1 HV2.out.1.1 (fun i i1 => HV2.out.1.2.1 i (.inr i1))
                   have HQ := HI.out md en b (md : Int) (en : Int) (b : Int) d wr rfl rfl rfl (by omega) (by omega) (by omega) h3 (by have := HV2.out.1.1; have := HX.out.2; omega) HV3.out S1.out
                   go_wp2_with (go_at_call 19; ((with_reducible refine HQ.mono ?_); rintro e w3 ⟨rfl, d3, mv3, sr3, sw3⟩))
                   go_end0
                   exact ⟨rfl, d3, (HX.out.1.trans (HV2.out.1.mono (Nat.le_refl _) (by omega))).trans (mv3.mono (by omega) (Nat.le_refl _)), sorted_halves HV.out.2.2 (by omega) HV2.out.1 HV2.out.2 mv3 sr3, sw3⟩)
              · first
                | (exfalso; omega)
                | (have HX : Aside (MvI a b d d ∧ d.size = N) := ⟨MvI.refl _ _ _, HD.out⟩
                   have HV : Aside _ := HM.out.halves (d' := d) (st := st) (en := en) ⟨by omega, by omega⟩ ⟨by omega, by omega⟩ rfl (fun x => rot_none (fun i => d[i]!) (by omega) (by omega) (by omega) x) FND.out.1 FND.out.2
                   rw [hE.2.2.2.2.1] at HV
                   clear FND
                   have HV2 : Aside (MvI a md d d ∧ SrI bt a md d) := ⟨MvI.refl _ _ _, HV.out.1.sorted (by omega)⟩
                   have HV3 : Aside (MrgI bt pos md en b d) := MrgI.congr HV.out.2.1 HV2.out.1.1 (fun i i1 => HV2.out.1.2.1 i (.inr i1))
                   go_wp2
                   go_end0
                   exact ⟨rfl, d, HX.out.1.trans (HV2.out.1.mono (Nat.le_refl _) (by omega)), sorted_halves HV.out.2.2 (by omega) HV2.out.1 HV2.out.2 (MvI.refl md b d) (HV3.out.sorted (by omega)), S1.out⟩)
            · first
              | (exfalso; omega)
              | (have HX : Aside (MvI a b d d ∧ d.size = N) := ⟨MvI.refl _ _ _, HD.out⟩
                 have HV : Aside _ := HM.out.halves (d' := d) (st := st) (en := en) ⟨by omega, by omega⟩ ⟨by omega, by omega⟩ rfl (fun x => rot_none (fun i => d[i]!) (by omega) (by omega) (by omega) x) FND.out.1 FND.out.2
                 rw [hE.2.2.2.2.1] at HV
                 clear FND
                 have HV2 : Aside (MvI a md d d ∧ SrI bt a md d) := ⟨MvI.refl _ _ _, HV.out.1.sorted (by omega)⟩
                 have HV3 : Aside (MrgI bt pos md en b d) := MrgI.congr HV.out.2.1 HV2.out.1.1 (fun i i1 => HV2.out.1.2.1 i (.inr i1))
                 go_wp2
                 go_end0
                 exact ⟨rfl, d, HX.out.1.trans (HV2.out.1.mono (Nat.le_refl _) (by omega)), sorted_halves HV.out.2.2 (by omega) HV2.out.1 HV2.out.2 (MvI.refl md b d) (HV3.out.sorted (by omega)), S1.out⟩)
theorem sym_ok (enc : α → Value) (cf : α → α → Int) (bt : α → α → Prop) (pos : α → Nat) (H : OrdS bt (ltOf cf) pos) (g : Nat) (cb : Array Value) (blk off cap N : Nat) (d0 : Array α) (w0 : World)
    (eg : ∀ args w, (callFunc g args).run Try.prog w = .ok (.enter g args) w) (hcmp : CmpLays1 Try.prog g cb enc cf blk off d0.size w0) (R : Row1 enc w0 blk off d0) (hN : d0.size = N) (hsz : N < 1152921504606846976) : ∀ K, SymOK enc bt pos g cb blk off cap N w0 K := by
  intro K
  induction K with
  | zero => intro a m b aI mI bI d w _ _ _ h; omega
  | succ K ih =>
    intro a m b aI mI bI d w ha hm hb hK h1 h2 h3 hs M S
    by_cases e1 : m = a + 1
    · exact sym_left enc cf bt pos H g cb blk off cap a m b N aI mI bI ha hm hb d0 d w0 w eg hcmp R hN hsz hs S M h1 h2 h3 e1
    · by_cases e2 : b = m + 1
      · exact sym_right enc cf bt pos H g cb blk off cap a m b N aI mI bI ha hm hb d0 d w0 w eg hcmp R hN hsz hs S M h1 h2 h3 e2 e1
      · exact sym_gen enc cf bt pos H g cb blk off cap a m b N aI mI bI ha hm hb d0 d w0 w eg hcmp R hN hsz hs S M h1 h2 h3 e1 e2 K (by omega) ih
end
end Go.Proofs.Ytalnfbgaiegicaa

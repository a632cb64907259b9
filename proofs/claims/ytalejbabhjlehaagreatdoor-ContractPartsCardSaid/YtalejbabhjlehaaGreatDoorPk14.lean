/- Joined: IntA7, IntA8. -/
import Derived.Test.YtalejbabhjlehaaGreatDoorPk12
import Derived.Test.YtalejbabhjlehaaGreatDoorPk9
import Derived.Test.YtalejbabhjlehaaGreatDoorPk13
import Derived.Test.YtalejbabhjlehaaGreatDoorPk11
import Derived.Laws.AppendOwnNone
import Derived.Deep.CutBlock
import Derived.Deep.DeepCutAuto
import Derived.Laws.CopyOwn
/- Joined: IntQ, IntQ2, IntQ1, IntQ3, IntQ4, IntQ5, IntK7, IntE, IntE2. -/
/- The reference of layer 1: what long division keeps, digit by digit. -/
namespace Go.Proofs.YtalejbabhjlehaaGreatDoor
open Go Go.RowKit
theorem own_row {w : World} {base e g n : Nat} {xs : List Value} (h : w.ownsRow base e 1 (.slice (some ⟨g, 0, none⟩) n n) n xs) : w.heap[g]? = some (.cells xs.toArray e (0, 0)) ∧ base ≤ g ∧ xs.length = n := by
  rcases h.2 with ⟨hv, _⟩ | ⟨g', cap, cur, hv, hb, hh, _, _, hs, ht⟩
  · cases hv
  · injection hv with h1 h2 h3
    simp only [Option.some.injEq, Addr.mk.injEq, and_true] at h1
    subst h1 h3
    have hl := h.1
    rw [Nat.mul_one] at hl hs ht
    rw [List.take_of_length_le (by simp [hs])] at ht
    refine ⟨?_, hb, hl⟩
    rw [hh, ← ht]
theorem row_own {w : World} {base e g n : Nat} {xs : List Value} (h : w.heap[g]? = some (.cells xs.toArray e (0, 0))) (hb : base ≤ g) (hl : xs.length = n) (hn : n ≤ maxLen) : w.ownsRow base e 1 (.slice (some ⟨g, 0, none⟩) n n) n xs := by
  refine ⟨by omega, .inr ⟨g, n, xs.toArray, rfl, hb, h, Nat.le_refl _, hn, by simp [hl], ?_⟩⟩
  rw [Nat.mul_one, List.take_of_length_le (by simp [hl])]
end Go.Proofs.YtalejbabhjlehaaGreatDoor
/- Layer 1: quotients and rests as texts, and greatest common divisors. -/
namespace Go.Proofs.YtalejbabhjlehaaGreatDoor
open Go Go.RowKit
def gcS (l m : List UInt8) : List UInt8 × Int :=
  if bothE l m = 0 then (Lib.itoa ((Nat.gcd (num l).natAbs (num m).natAbs : Nat) : Int), 0) else ([], bothE l m)
theorem gcS_err {l m : List UInt8} (h : ¬ bothE l m = 0) : gcS l m = ([], bothE l m) := by unfold gcS; rw [if_neg h]
theorem gcS_ok {l m : List UInt8} (h : bothE l m = 0) : gcS l m = (Lib.itoa ((Nat.gcd (num l).natAbs (num m).natAbs : Nat) : Int), 0) := by unfold gcS; rw [if_pos h]
theorem sgn_natAbs (m : Bool) (u : Nat) : (sgn m u).natAbs = u := by cases m <;> simp [sgn]
end Go.Proofs.YtalejbabhjlehaaGreatDoor
/- The walks of the reference of layer 1: long division. -/
namespace Go.Proofs.YtalejbabhjlehaaGreatDoor
open Go Go.RowKit
def cellN (w : World) (a : Addr) : Nat := match w.cell? a with | some (.int _ n) => n.toNat | _ => 0
end Go.Proofs.YtalejbabhjlehaaGreatDoor
/- The walks of the reference of layer 1: DivMod. -/
namespace Go.Proofs.YtalejbabhjlehaaGreatDoor
open Go Go.RowKit
section
variable (s t : ByteArray) (g k : Bool) (X Y : Nat) (hg : ngB s.data.toList = g) (hk : ngB t.data.toList = k) (hX : vl 10 (dgs (bod s.data.toList)) = X) (hY : vl 10 (dgs (bod t.data.toList)) = Y) (h1 : chk s.data.toList = 0) (h2 : chk t.data.toList = 0) (w : World)
include hg hk hX hY h1 h2
end
end Go.Proofs.YtalejbabhjlehaaGreatDoor
/- The walks of the reference of layer 1: DivMod of a negative integer with a rest; the whole of DivMod. -/
namespace Go.Proofs.YtalejbabhjlehaaGreatDoor
open Go Go.RowKit
section
variable (s t : ByteArray) (k : Bool) (X Y : Nat) (hg : ngB s.data.toList = true) (hk : ngB t.data.toList = k) (hX : vl 10 (dgs (bod s.data.toList)) = X) (hY : vl 10 (dgs (bod t.data.toList)) = Y) (h1 : chk s.data.toList = 0) (h2 : chk t.data.toList = 0) (w : World)
include hg hk hX hY h1 h2
end
end Go.Proofs.YtalejbabhjlehaaGreatDoor
/- The walks of the reference of layer 1: Gcd. -/
namespace Go.Proofs.YtalejbabhjlehaaGreatDoor
open Go Go.RowKit
def rdN (w : World) : Value → List Nat
  | .slice (some a) n _ => (List.range n).map fun j => cellN w ⟨a.block, a.off + j, none⟩
  | _ => []
end Go.Proofs.YtalejbabhjlehaaGreatDoor
/- The walks of layer 1: the division of magnitudes. -/
namespace Go.Proofs.YtalejbabhjlehaaGreatDoor
open Go Go.RowKit
def DivR (w : World) (X V N : Nat) (e : Ending) (w' : World) : Prop := ∃ A1 c1 qs A2 c2 rs, e = .returned (.tuple #[.slice A1 qs.length c1, .slice A2 rs.length c2]) ∧ SlA encU w' A1 qs ∧ SlA encU w' A2 rs ∧ Nrm qs ∧ Nrm rs ∧
  vl 1000000000 qs = X / V ∧ vl 1000000000 rs = X % V ∧ qs.length ≤ N ∧ rs.length ≤ N ∧ Below w.heap.size w w'
theorem own_only {w w' : World} {base e g g' n : Nat} {xs : List Value} (h : w.ownsRow base e 1 (.slice (some ⟨g, 0, none⟩) n n) n xs) (ho : Only g' w w') (hne : g ≠ g') (hn : n ≤ maxLen) : w'.ownsRow base e 1 (.slice (some ⟨g, 0, none⟩) n n) n xs := by
  obtain ⟨h1, h2, h3⟩ := own_row h
  exact row_own ((ho g hne).trans h1) h2 h3 hn
theorem add_mid' (b o j : Nat) : (⟨b, o, none⟩ : Addr).add j = ⟨b, o + j, none⟩ := by unfold Addr.add; split <;> simp_all
theorem copy_src {w : World} {A : Option Addr} {xs : List Nat} (hA : SlA encU w A xs) (h : 0 < (xs.map encU).length) : ∃ ad, A = some ad ∧ ∀ j v, (xs.map encU)[j]? = some v → w.cell? (ad.add j) = some v := by
  obtain ⟨b, o, rfl, _, hc⟩ := hA.all (by intro h0; rw [h0] at h; simp at h)
  refine ⟨_, rfl, fun j v hv => ?_⟩
  rw [List.getElem?_map] at hv
  rw [add_mid']
  cases hx : xs[j]? with
  | none => rw [hx] at hv; cases hv
  | some x =>
    rw [hx] at hv
    obtain ⟨hl, rfl⟩ := List.getElem?_eq_some_iff.1 hx
    rw [hc j hl]; exact hv
theorem splice_zero (xs : List Nat) : splice ((List.replicate (xs.length + 1) 0).map encU) 0 (xs.map encU) = (xs ++ [0]).map encU := by
  simp [splice, List.drop_replicate, List.map_append]
theorem set_lt {B i v : Nat} {qs : List Nat} (h : ∀ t, qs.getD t 0 < B) (hv : v < B) (j : Nat) : (qs.set i v).getD j 0 < B := by
  rw [getD_set]; split
  · exact hv
  · exact h j
set_option maxRecDepth 100000 in
set_option maxHeartbeats 3200000 in
theorem divide_any (A B : Option Addr) (ca cb : Nat) (xs ys : List Nat) (w : World) (hA : SlA encU w A xs) (hB : SlA encU w B ys) (ha : ∀ d ∈ xs, d < 1000000000) (hb : ∀ d ∈ ys, d < 1000000000) (hla : xs.length ≤ 1048576) (hlb : ys.length ≤ 1048576) (hy0 : ys ≠ []) (ty : ys.getD (ys.length - 1) 0 ≠ 0) :
    Calls Tryz.prog 157 #[.slice A xs.length ca, .slice B ys.length cb] w (DivR w (vl 1000000000 xs) (vl 1000000000 ys) (xs.length + 1)) := by
  obtain ⟨i0, hi, hz0, hz1, hz2⟩ := info_parts Tryz.infoU
  obtain ⟨N, hN⟩ : ∃ N : Nat, max ((xs.length : Int) - (ys.length : Int) + 1) 0 = (N : Int) := ⟨(max ((xs.length : Int) - (ys.length : Int) + 1) 0).toNat, by omega⟩
  have hNb : N ≤ 1048577 := by omega
  go_enter Tryz.func157, Tryz.ntmps157
  go_wp2_with (first
    | (at_make; refine wpList_make_full _ rfl _ _ 157 rfl w.heap.size 117 i0 (.int .u32 0) 1 Tryz.underlying157 hi hz0 hz1 _ _ _ _ (xs.length + 1) rfl rfl (by omega) (by omega) (by rw [hz2]; omega) (by unfold maxLen; omega) (Nat.le_refl _) ?_; intro w1 hown hg1
       rw [zerosU] at hown
       have hb1 : Below w.heap.size w w1 := (Below.refl _ _).grown hg1 (Nat.le_refl _) (fun k hk => by cases hk)
       obtain ⟨r1, r2, r3⟩ := own_row hown
       have HA1 := Lib.hid (hA.below hb1)
       have R1 := Lib.hid r1
       clear hown hg1 r1 r2 r3)
    | (refine wpList_copy_splice (o := ⟨some 15, _, _, _, _, _⟩) rfl (.tmp 13) (.tmp 14) 157 157 rfl 117 Tryz.underlying157 (by kernel_rfl) _ _ _ _ _ _ rfl rfl w.heap.size 0 _ 117 R1.out (xs.map encU) (by simp) (fun h => ⟨rfl, copy_src HA1.out h⟩) (by simp) (by intro v hv; obtain ⟨x, _, rfl⟩ := List.mem_map.1 hv; rfl) w.heap.size w hb1 (Nat.le_refl _) ?_; intro w2 R2 hb2)
    | (at_make; refine wpList_make_full _ rfl _ _ 157 rfl w2.heap.size 117 i0 (.int .u32 0) 1 Tryz.underlying157 hi hz0 hz1 _ _ _ _ N rfl rfl rfl rfl (by rw [hz2]; omega) (by unfold maxLen; omega) (Nat.le_refl _) ?_; intro w3 hownQ hg2))
  rw [zerosU] at hownQ
  have hyl : 1 ≤ ys.length := List.length_pos_iff.2 hy0
  have hg0 : w.heap.size < w2.heap.size := lt_of_block R2.out
  have hb3 : Below w.heap.size w w3 := hb2.grown hg2 hb2.size (fun k hk => by cases hk)
  have hR3 : w3.ownsRow w.heap.size 117 1 (.slice (some ⟨w.heap.size, 0, none⟩) (xs.length + 1) (xs.length + 1)) (xs.length + 1) ((xs ++ [0]).map encU) := row_own ((hg2.block _ hg0 (by simp)).trans (by rw [← splice_zero]; exact R2.out)) (Nat.le_refl _) (by simp) (by unfold maxLen; omega)
  have hVge := vl_ge 1000000000 ys hy0 ty
  have HD := Lib.hid (DvInv.start 1000000000 (vl 1000000000 ys) N (by omega) xs ys ha hVge (by omega))
  clear hb1 HA1 R1 R2 hb2 hg2
  go_loopw [6] (fun ii wr => ∃ (j : Nat) (rs qs : List Nat), j ≤ N ∧ ii = .int .i64 ((j : Int) - 1) ∧ wr.ownsRow w.heap.size 117 1 (.slice (some ⟨w.heap.size, 0, none⟩) (xs.length + 1) (xs.length + 1)) (xs.length + 1) (rs.map encU) ∧
      wr.ownsRow w2.heap.size 117 1 (.slice (some ⟨w2.heap.size, 0, none⟩) N N) N (qs.map encU) ∧ Hid (DvInv 1000000000 (vl 1000000000 xs) (vl 1000000000 ys) rs qs j) ∧ Hid (∀ t, qs.getD t 0 < 1000000000) ∧ Below w.heap.size w wr) (fun ii _ => (intOf ii + 1).toNat)
  case atStart => exact ⟨N, _, _, Nat.le_refl _, rfl, hR3, hownQ, HD, fun t => by rw [zeros_getD]; omega, hb3⟩
  case round =>
    clear hR3 hownQ HD hb3
    obtain ⟨j, rs, qs, hj, rfl, hown, hownQ, hinv, hql, hbel⟩ := hrel
    cases j with
    | zero =>
      have e0 : (((0 : Nat) : Int) - 1) = -1 := rfl
      rw [e0]
      have hrl : rs.length = xs.length + 1 := by have := hown.1; simpa using this
      have hqn : qs.length = N := by have := hownQ.1; simpa using this
      obtain ⟨f1, f2⟩ := hinv.out.last
      have HF1 := Lib.hid f1
      have HF2 := Lib.hid f2
      have HRL := Lib.hid (getD_lt 1000000000 rs hinv.out.rlt (by omega))
      have hSq : SlA encU wr (some ⟨w2.heap.size, 0, none⟩) qs := by
        obtain ⟨A1, c1, h1, _, hS⟩ := SlA.of_own hownQ
        injection h1 with h1
        rw [h1]; exact hS
      have hSr : SlA encU wr (some ⟨w.heap.size, 0, none⟩) rs := by
        obtain ⟨A1, c1, h1, _, hS⟩ := SlA.of_own hown
        injection h1 with h1
        rw [h1]; exact hS
      have HT1 := trim_any (some ⟨w2.heap.size, 0, none⟩) N qs wr hSq (by omega) (by unfold maxLen; omega)
      have HT2 := trim_any (some ⟨w.heap.size, 0, none⟩) (xs.length + 1) rs wr hSr (by omega) (by unfold maxLen; omega)
      rw [hqn] at HT1
      rw [hrl] at HT2
      have HT1 := Lib.hid HT1
      have HT2 := Lib.hid HT2
      have hql' : qs.length ≤ xs.length + 1 := by omega
      have hrl' : rs.length ≤ xs.length + 1 := by omega
      clear e0 hrl hqn hinv hown hownQ f1 f2
      go_wp2_with (first
        | (go_at_call 167; (with_reducible refine HT1.out.mono ?_); rintro e w8 ⟨z1, rfl, ht1, rfl⟩; have HTr1 := Lib.hid ht1; clear ht1)
        | (go_at_call 167; (with_reducible refine HT2.out.mono ?_); rintro e w9 ⟨z2, rfl, ht2, rfl⟩; have HTr2 := Lib.hid ht2; clear ht2))
      go_ret2
      exact ⟨_, _, z1, _, _, z2, rfl, hSq.trimmed HTr1.out, hSr.trimmed HTr2.out, Nrm.of hql.out HTr1.out, Nrm.of HRL.out HTr2.out, by rw [HTr1.out.2.1, HF1.out], by rw [HTr2.out.2.1, HF2.out], Nat.le_trans HTr1.out.len hql', Nat.le_trans HTr2.out.len hrl', hbel⟩
    | succ i =>
      have ej : ((i + 1 : Nat) : Int) - 1 = (i : Int) := by omega
      rw [ej]
      clear ej
      have hrl : rs.length = xs.length + 1 := by have := hown.1; simpa using this
      have hqn : qs.length = N := by have := hownQ.1; simpa using this
      have hil : i + (ys.length + 1) ≤ rs.length := by omega
      obtain ⟨pre, p, post, rfl, hpl, hpm⟩ : ∃ pre p post, rs = pre ++ p ++ post ∧ pre.length = i ∧ p.length = ys.length + 1 := ⟨_, _, _, part_split rs i (ys.length + 1) hil⟩
      subst hpl
      obtain ⟨k, hk⟩ : ∃ k, ys.length = k + 1 := ⟨ys.length - 1, by omega⟩
      have hpb : ∀ d ∈ p, d < 1000000000 := fun d hd => hinv.out.rlt d (by simp [hd])
      have hpg : ∀ t, p.getD t 0 < 1000000000 := getD_lt 1000000000 p hpb (by omega)
      have hVlt : vl 1000000000 ys < 1000000000 ^ (p.length - 1) := by rw [hpm, Nat.add_sub_cancel]; exact vl_lt 1000000000 ys hb
      obtain ⟨hlt, hpost⟩ := hinv.out.part (by omega) rfl hVlt (by omega)
      have hv1 : 1 ≤ ys.getD k 0 := by rw [hk, Nat.add_sub_cancel] at ty; omega
      obtain ⟨G1, G2, G3, G4⟩ := guess_okB 1000000000 (by omega) p ys k (by omega) hk hpb hb hv1 hlt
      have eu1 : p[ys.length]'(by omega) = p.getD (k + 1) 0 := by rw [List.getD_eq_getElem?_getD, ← hk, List.getElem?_eq_getElem (by omega)]; rfl
      have eu0 : p[k]'(by omega) = p.getD k 0 := by rw [List.getD_eq_getElem?_getD, List.getElem?_eq_getElem (by omega)]; rfl
      have ev1 : ys[k]'(by omega) = ys.getD k 0 := by rw [List.getD_eq_getElem?_getD, List.getElem?_eq_getElem (by omega)]; rfl
      have HG := Lib.hid (guess_any (some ⟨w.heap.size, pre.length, none⟩) B (xs.length + 1 - pre.length) cb p ys (ys.length + 1) ys.length k rfl hk hpm rfl wr (SlA.part hown) (hB.below hbel) hpb hb _ _ _ eu1 eu0 ev1 hv1 (by omega) G1)
      generalize ((p.getD (k + 1) 0 * 1000000000 + p.getD k 0) * 1000000000 + low p k) / (ys.getD k 0 * 1000000000 + low ys k) = t at HG G2 G3
      have htB : t ≤ 1000000000 := by omega
      have HTK := Lib.hid (fun W (hW : W.heap = wr.heap) (hbW : Below w.heap.size w W) => take_any w.heap.size w.heap.size (xs.length + 1) (xs.length + 1) (ys.length + 1) (xs.length + 1 - pre.length) pre p post ys hpm B cb t htB W (Nat.le_refl _) (by omega) (by omega) (row_own (by rw [hW]; exact (own_row hown).1) (Nat.le_refl _) (own_row hown).2.2 (by unfold maxLen; omega)) (fun W' h' => hB.below (hbW.trans h')) hb hpg)
      have hVpos : 0 < vl 1000000000 ys := Nat.lt_of_lt_of_le (Nat.pow_pos (by decide)) hVge
      have HST := Lib.hid (fun p' hb' hv' => hinv.out.step hVpos rfl hpost (by omega) p' hb' hv')
      have e0 : (0 : Int) ≤ (pre.length : Int) := by omega
      have e1 : (pre.length : Int) + (ys.length : Int) + 1 ≤ (xs.length : Int) + 1 := by omega
      have e2 : (pre.length : Int) ≤ (pre.length : Int) + (ys.length : Int) + 1 := by omega
      have em : pre.length + ys.length + 1 - pre.length = ys.length + 1 := by omega
      have e3 : (pre.length : Int) < (N : Int) := by omega
      have e4 : (t : Int) ≤ 1000000000 := by omega
      obtain ⟨q, hq⟩ : ∃ q, vl 1000000000 p / vl 1000000000 ys = q := ⟨_, rfl⟩
      rw [hq] at HST G2 G3
      have hpl : pre.length ≤ 1048577 := by omega
      have hHQ := Lib.hid (fun W (h : Only w.heap.size wr W) => own_only hownQ h (by omega) (by unfold maxLen; omega))
      have hqb : q < 1000000000 := by rw [← hq]; exact G4
      have HQN := Lib.hid hqn
      have HPM := Lib.hid hpm
      have HHK := Lib.hid hk
      have HHQ := Lib.hid hq
      have HGB := Lib.hid hb
      have hqs : pre.length < qs.length := by omega
      have hk' : k + 1 ≤ ys.length := by omega
      have hqb' : (q : Int) ≤ 999999999 := by omega
      by_cases htq : t = q
      · have HOK := Lib.hid (fun p' c (h : TkInv p ys t p' (ys.length + 1) c) => take_ok (1000000000 ^ (ys.length + 1)) (vl 1000000000 p) (vl 1000000000 ys) q t (vl 1000000000 p') c (by
          have := h.2.2.2.1
          rwa [vl_take_all _ p' _ (by have := h.1; omega), vl_take_all _ ys _ (by omega), vl_take_all _ p _ (by omega)] at this) (by
          have h3 := vl_lt 1000000000 p' (mem_getD p' _ fun t _ => h.2.1 t)
          rwa [h.1, hpm] at h3) hq.symm htq)
        subst htq
        clear hA hB ha hb hy0 ty hN hVge hown hownQ hrl hinv hk hpb hpg hVlt hlt hpost hv1 G1 G2 G3 G4 eu1 eu0 ev1 hVpos hq hqn hpm
        go_wp2_with (first
          | (go_at_call 168; refine HG.out.mono ?_; rintro e w4 ⟨rfl, dn, rfl⟩)
          | (go_at_call 169; refine (HTK.out (wr.drewN dn) rfl (below_drewN hbel dn)).mono ?_; rintro e w5 ⟨p', c, rfl, ho5, hk5, hb5, hn5⟩
             obtain ⟨hc0, hv5⟩ := HOK.out p' c hk5
             subst hc0
             have hq5 := hHQ.out w5 hn5
             have hc5 := own_cellU hq5 pre.length hqs
             have hf5 := hq5.frozenAt pre.length
             have HK5 := Lib.hid hk5
             have HV5 := Lib.hid hv5
             generalize qs.getD pre.length 0 = y at hc5
             clear hk5 hv5 HTK HG HOK))
        go_roundw
        case rel => exact ⟨pre.length, pre ++ p' ++ post, qs.set pre.length t, by omega, rfl, own_only ho5 ((Only.refl _ _).setCell _ _) (by omega) (by unfold maxLen; omega), own_setU hq5 pre.length t rfl, HST.out p' (mem_getD p' _ fun t _ => HK5.out.2.1 t) HV5.out, fun j => set_lt hql.out hqb j, ((below_drewN hbel dn).trans hb5).setCell (p := ⟨w2.heap.size, pre.length, none⟩) (Nat.le_of_lt hg0) _⟩
        case measure => simp [intOf]
      · have htq1 : t = q + 1 := by omega
        have HOK := Lib.hid (fun p' c (h : TkInv p ys t p' (ys.length + 1) c) => take_over (1000000000 ^ (ys.length + 1)) (vl 1000000000 p) (vl 1000000000 ys) q t (vl 1000000000 p') c (by
          have := h.2.2.2.1
          rwa [vl_take_all _ p' _ (by have := h.1; omega), vl_take_all _ ys _ (by omega), vl_take_all _ p _ (by omega)] at this) hVpos (by
          have h3 := vl_lt 1000000000 ys hb
          have h4 : 1000000000 ^ ys.length ≤ 1000000000 ^ (ys.length + 1) := Nat.pow_le_pow_right (by omega) (by omega)
          omega) (by
          have h3 := vl_lt 1000000000 p' (mem_getD p' _ fun t _ => h.2.1 t)
          rwa [h.1, hpm] at h3) hq.symm htq1)
        have HBW := Lib.hid (fun W (h : Below w.heap.size w W) => hB.below h)
        have HTQ := Lib.hid htq1
        have htt1 : (1 : Int) ≤ (t : Int) := by omega
        have hcp : pre.length + (ys.length + 1) ≤ xs.length + 1 := by omega
        clear hA hB ha hb hy0 ty hN hVge hown hownQ hrl hinv hk hpb hpg hVlt hlt hpost hv1 G1 G2 G3 G4 eu1 eu0 ev1 hVpos hq hqn hpm htq htq1
        go_wp2_with (first
          | (go_at_call 168; refine HG.out.mono ?_; rintro e w4 ⟨rfl, dn, rfl⟩)
          | (go_at_call 169; refine (HTK.out (wr.drewN dn) rfl (below_drewN hbel dn)).mono ?_; rintro e w5 ⟨p', c, rfl, ho5, hk5, hb5, hn5⟩
             obtain ⟨hc0, hv5⟩ := HOK.out p' c hk5
             subst hc0
             have hbl5 := (below_drewN hbel dn).trans hb5
             have hl5 : p'.length = ys.length + 1 := hk5.1.trans HPM.out
             have HRS := Lib.hid (restore_any w.heap.size w.heap.size (xs.length + 1) (xs.length + 1) (ys.length + 1) (xs.length + 1 - pre.length) pre p' post ys hl5 B cb w5 (Nat.le_refl _) (by omega) (by omega) ho5 (fun W' h' => HBW.out _ (hbl5.trans h')) HGB.out hk5.2.1)
             have HL5 := Lib.hid hl5
             have HV5 := Lib.hid hv5
             clear hk5 hv5 hl5 HTK HG HOK)
          | (go_at_call 170; refine HRS.out.mono ?_; rintro e w6 ⟨p6, c6, rfl, ho6, hk6, hb6, hn6⟩
             have hq6 := hHQ.out w6 (fun b hb => (hn6 b hb).trans (hn5 b hb))
             have hc6 := own_cellU hq6 pre.length hqs
             have hf6 := hq6.frozenAt pre.length
             have HV6 := Lib.hid (HV5.out (vl 1000000000 p6) c6 (by
               have := hk6.2.2.2.1
               rwa [vl_take_all _ p6 _ (by rw [hk6.1, HL5.out]; exact Nat.le_refl _), vl_take_all _ ys _ (Nat.le_succ _), vl_take_all _ p' _ (by rw [HL5.out]; exact Nat.le_refl _)] at this) (by
               have h3 := vl_lt 1000000000 p6 (mem_getD p6 _ fun t _ => hk6.2.1 t)
               rwa [hk6.1, HL5.out] at h3))
             have HK6 := Lib.hid hk6
             generalize qs.getD pre.length 0 = y at hc6
             clear hk6 HRS HV5))
        go_roundw
        case rel => exact ⟨pre.length, pre ++ p6 ++ post, qs.set pre.length q, by omega, rfl, own_only ho6 ((Only.refl _ _).setCell _ _) (by omega) (by unfold maxLen; omega), own_setU hq6 pre.length q (by rw [HTQ.out]; omega), HST.out p6 (mem_getD p6 _ fun t _ => HK6.out.2.1 t) HV6.out, fun j => set_lt hql.out hqb j, (hbl5.trans hb6).setCell (p := ⟨w2.heap.size, pre.length, none⟩) (Nat.le_of_lt hg0) _⟩
        case measure => simp [intOf]
end Go.Proofs.YtalejbabhjlehaaGreatDoor
/- The walks of layer 1: the program's Gcd. -/
namespace Go.Proofs.YtalejbabhjlehaaGreatDoor
open Go Go.RowKit
theorem rdN_ofU {w : World} {A : Option Addr} {xs : List Nat} {c : Nat} (h : SlA encU w A xs) : rdN w (.slice A xs.length c) = xs := by
  cases A with
  | none =>
    cases xs with
    | nil => rfl
    | cons x xs => obtain ⟨b, o, h1, _⟩ := h 0 x rfl; cases h1
  | some a =>
    refine List.ext_getElem (by simp [rdN]) fun j h1 h2 => ?_
    obtain ⟨b, o, e, _, hc⟩ := h.get h2
    injection e with e
    subst e
    simp only [rdN, List.getElem_map, List.getElem_range]
    unfold cellN; rw [hc]; rfl
theorem Nrm.len_le {xs ys : List Nat} (hx : Nrm xs) (hy : Nrm ys) (h : vl 1000000000 xs ≤ vl 1000000000 ys) : xs.length ≤ ys.length := by
  rcases Nat.lt_or_ge ys.length xs.length with hl | hl
  · have := cmp_len ys xs hy.lt hx.lt hx.top hl
    omega
  · exact hl
theorem Nrm.ne_of_pos {xs : List Nat} (h : 0 < xs.length) : xs ≠ [] := by rintro rfl; simp at h
theorem gcd_step {G x y : Nat} (h : Nat.gcd x y = G) : Nat.gcd y (x % y) = G := by
  rw [← h, Nat.gcd_comm y, ← Nat.gcd_rec, Nat.gcd_comm]
theorem field_size (m : Bool) (A : Option Addr) (n c : Nat) (w : World) : (Instr.field 159 (.agg #[.bool m, .slice A n c]) 1).run Tryz.prog w = .ok (.slice A n c) w := by kernel_rfl
section
variable (s t : ByteArray) (hs : s.size ≤ maxLen) (ht : t.size ≤ maxLen) (w : World) (hv : VarT w)
include hs ht hv
set_option maxRecDepth 100000 in
set_option maxHeartbeats 1600000 in
theorem gcd_any : Calls Tryz.prog 148 #[.string s, .string t] w fun e w' => e = .returned (.tuple #[.string ⟨(gcS s.data.toList t.data.toList).1.toArray⟩, .int .i64 (gcS s.data.toList t.data.toList).2]) ∧ Below w.heap.size w w' := by
  have CS := Lib.hid (fun W => check_any s W hs)
  have CT := Lib.hid (fun W => check_any t W ht)
  have HAL := Lib.hid (fun o => (Below.refl _ w).alloc (Nat.le_refl _) o)
  have HV := Lib.hid hv
  clear hv
  by_cases hb : bothE s.data.toList t.data.toList = 0
  · obtain ⟨hx, hy⟩ := bothE_zero hb
    have PS := Lib.hid (parse_r s hx)
    have PT := Lib.hid (parse_r t hy)
    rw [gcS_ok hb]
    rw [hx] at CS
    rw [hy] at CT
    obtain ⟨G, hG⟩ : ∃ G, Nat.gcd (num s.data.toList).natAbs (num t.data.toList).natAbs = G := ⟨_, rfl⟩
    have HG := Lib.hid hG
    rw [hG]
    generalize s.data.toList = ls at PS HG
    generalize t.data.toList = lt at PT HG
    clear hx hy hb hs ht hG
    have HO := Lib.hid (or_new 0 0 w)
    rw [if_pos rfl] at HO
    have hfd := field_size
    go_enter Tryz.func148, Tryz.ntmps148
    go_wp2_with (first
      | (go_at_call 135; (with_reducible refine (CS.out _).mono ?_); rintro e w1 ⟨rfl, rfl⟩)
      | (go_at_call 135; (with_reducible refine (CT.out _).mono ?_); rintro e w1 ⟨rfl, rfl⟩)
      | (go_at_call 155; refine (HO.out _).mono ?_; rintro e w1 ⟨rfl, rfl⟩)
      | (go_at_call 156; (with_reducible refine (PS.out _).mono ?_); rintro e w1 ⟨m1, A1, c1, xs, rfl, S1, N1, V1, L1, L1', C1, B1⟩)
      | (go_at_call 156; (with_reducible refine (PT.out _).mono ?_); rintro e w2 ⟨m2, A2, c2, ys, rfl, S2, N2, V2, L2, L2', C2, B2⟩
         have HGX : Hid (Nat.gcd (vl 1000000000 xs) (vl 1000000000 ys) = G) := by
           show _ = _
           rw [← HG.out, V1, V2, sgn_natAbs, sgn_natAbs]
         clear V1 V2))
    have HN1 := Lib.hid N1
    have HN2 := Lib.hid N2
    have S1' := S1.below B2
    have HB2 := bt (bt (HAL.out _) B1) B2
    clear N1 N2 S1 B1 B2 HG hfd
    go_loopw [7, 8] (fun x y wr => ∃ (A : Option Addr) (c : Nat) (xs : List Nat) (B : Option Addr) (d : Nat) (ys : List Nat), x = .slice A xs.length c ∧ y = .slice B ys.length d ∧ SlA encU wr A xs ∧ SlA encU wr B ys ∧ Hid (Nrm xs) ∧ Hid (Nrm ys) ∧
        xs.length ≤ 112 ∧ ys.length ≤ 112 ∧ Hid (Nat.gcd (vl 1000000000 xs) (vl 1000000000 ys) = G) ∧ Below w.heap.size w wr) (fun _ y wr => vl 1000000000 (rdN wr y))
    case atStart => exact ⟨A1, c1, xs, A2, c2, ys, rfl, rfl, S1', S2, HN1, HN2, L1, L2, HGX, HB2⟩
    case round =>
      clear S1' S2 HN1 HN2 L1 L2 HGX HB2 L1' L2' C1 C2
      obtain ⟨A, c, xs, B, d, ys, rfl, rfl, S1, S2, N1, N2, L1, L2, hg, hbel⟩ := hrel
      by_cases h0 : 0 < ys.length
      · have hne := Nrm.ne_of_pos h0
        have hp := N2.out.pos hne
        have HD := Lib.hid (divide_any A B c d xs ys wr S1 S2 N1.out.lt N2.out.lt (by omega) (by omega) hne (N2.out.top hne))
        have HY : Hid (vl 1000000000 (rdN wr (.slice B ys.length d)) = vl 1000000000 ys) := by show _ = _; rw [rdN_ofU S2]
        have HP := Lib.hid hp
        clear hne hp
        go_wp2_with (go_at_call 157; refine HD.out.mono ?_; rintro e w5 ⟨A5, c5, qs, A6, c6, rs, rfl, k1, k2, k3, k4, k5, k6, k7, k8, k9⟩; have K4 := Lib.hid k4; have K6 := Lib.hid k6; clear k1 k3 k4 k5 k6 k7 k8)
        go_roundw
        case rel => exact ⟨B, d, ys, A6, c6, rs, rfl, rfl, S2.below k9, k2, N2, K4, L2, Nat.le_trans (K4.out.len_le N2.out (by rw [K6.out]; exact Nat.le_of_lt (Nat.mod_lt _ HP.out))) L2, by rw [K6.out]; exact Lib.hid (gcd_step hg.out), hbel.trans (k9.mono hbel.size)⟩
        case measure => rw [HY.out]; show vl 1000000000 (rdN _ (.slice A6 rs.length c6)) < _; rw [rdN_ofU k2, K6.out]; exact Nat.mod_lt _ HP.out
      · have hy0 : ys = [] := List.eq_nil_of_length_eq_zero (by omega)
        subst hy0
        have HE : Hid (Lib.itoa (sgn false (vl 1000000000 xs)) = Lib.itoa (G : Int)) := by
          have := hg.out
          rw [show vl 1000000000 [] = 0 from rfl, Nat.gcd_zero_right] at this
          show _ = _
          rw [this]; rfl
        have HT := Lib.hid (text_of false A c xs wr S1 N1.out (by omega) (HV.out.below hbel))
        rw [HE.out] at HT
        rw [List.length_nil]
        go_wp2_with (go_at_call 158; refine HT.out.mono ?_; rintro e w5 ⟨rfl, k9⟩)
        go_ret2
        exact ⟨rfl, hbel.trans (k9.mono hbel.size)⟩
  · rw [gcS_err hb]
    unfold bothE at hb ⊢
    obtain ⟨x, hx⟩ : ∃ x, chk s.data.toList = x := ⟨_, rfl⟩
    obtain ⟨y, hy⟩ : ∃ y, chk t.data.toList = y := ⟨_, rfl⟩
    rw [hx] at CS hb ⊢
    rw [hy] at CT hb ⊢
    have HO := Lib.hid (or_new x y w)
    generalize (if x = 0 then y else x) = z at *
    have h1 : (z == 0) = false := by rw [beq_eq_false_iff_ne]; exact hb
    clear hx hy hs ht hb
    go_enter Tryz.func148, Tryz.ntmps148
    go_wp2_with (first
      | (go_at_call 135; (with_reducible refine (CS.out _).mono ?_); rintro e w1 ⟨rfl, rfl⟩)
      | (go_at_call 135; (with_reducible refine (CT.out _).mono ?_); rintro e w1 ⟨rfl, rfl⟩)
      | (go_at_call 155; refine (HO.out _).mono ?_; rintro e w1 ⟨rfl, rfl⟩))
    go_ret2
    exact ⟨rfl, HAL.out _⟩
end
end Go.Proofs.YtalejbabhjlehaaGreatDoor
/- The walks of layer 1: the program's DivMod. -/
namespace Go.Proofs.YtalejbabhjlehaaGreatDoor
open Go Go.RowKit
section
variable (s t : ByteArray) (hs : s.size ≤ maxLen) (ht : t.size ≤ maxLen) (w : World) (hv : VarT w)
include hs ht hv
end
end Go.Proofs.YtalejbabhjlehaaGreatDoor
/- Joined: IntL2g, IntF, IntF2, IntF3, IntL4g, IntF4, IntL5g, IntL6g, IntL7g, IntN. -/
/- Layer 1: Great of two strings. -/
namespace Go.Proofs.YtalejbabhjlehaaGreatDoor
open Go Go.RowKit
end Go.Proofs.YtalejbabhjlehaaGreatDoor
/- The walks of layer 1: what the laws share: op, fits. -/
namespace Go.Proofs.YtalejbabhjlehaaGreatDoor
open Go Go.RowKit
section
variable (s t : ByteArray) (hs : s.size ≤ maxLen) (ht : t.size ≤ maxLen) (w : World) (hv : VarT w)
include hs ht hv
end
end Go.Proofs.YtalejbabhjlehaaGreatDoor
/- The walks of layer 1: the chapter's examples. -/
namespace Go.Proofs.YtalejbabhjlehaaGreatDoor
open Go Go.RowKit
end Go.Proofs.YtalejbabhjlehaaGreatDoor
/- Layer 1: integers as their texts; the operations on them. -/
namespace Go.Proofs.YtalejbabhjlehaaGreatDoor
open Go Go.RowKit
def StrR (z : ByteArray) (w : World) (e : Ending) (w' : World) : Prop := e = .returned (.string z) ∧ Below w.heap.size w w'
section
variable {x y z : Int} (hx : x.natAbs < lim) (hy : y.natAbs < lim)
include hx hy
end
end Go.Proofs.YtalejbabhjlehaaGreatDoor
/- Layer 1: fits of two and three. -/
namespace Go.Proofs.YtalejbabhjlehaaGreatDoor
open Go Go.RowKit
end Go.Proofs.YtalejbabhjlehaaGreatDoor
/- Layer 1: the operations on integers as their texts: DivMod, Gcd, Compare. -/
namespace Go.Proofs.YtalejbabhjlehaaGreatDoor
open Go Go.RowKit
section
variable {x y : Int} (hx : x.natAbs < lim) (hy : y.natAbs < lim)
include hx hy
end
end Go.Proofs.YtalejbabhjlehaaGreatDoor
/- Layer 1: comparing. -/
namespace Go.Proofs.YtalejbabhjlehaaGreatDoor
open Go Go.RowKit
end Go.Proofs.YtalejbabhjlehaaGreatDoor
/- Layer 1: comparing, more. -/
namespace Go.Proofs.YtalejbabhjlehaaGreatDoor
open Go Go.RowKit
end Go.Proofs.YtalejbabhjlehaaGreatDoor
/- Layer 1: common divisors. -/
namespace Go.Proofs.YtalejbabhjlehaaGreatDoor
open Go Go.RowKit
end Go.Proofs.YtalejbabhjlehaaGreatDoor
/- Layer 1: integers of nines. -/
namespace Go.Proofs.YtalejbabhjlehaaGreatDoor
open Go Go.RowKit
end Go.Proofs.YtalejbabhjlehaaGreatDoor

/- The walks of layer 1: giving the divisor back to a part of the rest. -/
import Derived.Test.YtlipjedofegciaaDoorIntK2
namespace Go.Proofs.YtlipjedofegciaaDoor
open Go Go.RowKit

def RsInv (p0 ys p : List Nat) (k c : Nat) : Prop :=
  p.length = p0.length ∧ (∀ j, p.getD j 0 < 1000000000) ∧ (∀ j, k ≤ j → p.getD j 0 = p0.getD j 0) ∧
    vl 1000000000 (p.take k) + 1000000000 ^ k * c = vl 1000000000 (p0.take k) + vl 1000000000 (ys.take k) ∧ c ≤ 1
theorem RsInv.start (p0 ys : List Nat) (h : ∀ j, p0.getD j 0 < 1000000000) : RsInv p0 ys p0 0 0 :=
  ⟨rfl, h, fun _ _ => rfl, by simp [vl], by omega⟩
theorem rs_ring (B A Y P T c s x y n q : Nat) (h : A + T * c = P + Y) (h1 : s = c + (x + y)) (h2 : n + B * q = s) :
    A + T * n + T * B * q = P + T * x + (Y + T * y) := by subst h1; grind
theorem RsInv.step {p0 ys p : List Nat} {k c : Nat} (h : RsInv p0 ys p k c) (hk : k < p0.length) (hy : ys.getD k 0 < 1000000000) :
    RsInv p0 ys (p.set k ((c + (p.getD k 0 + ys.getD k 0)) % 1000000000)) (k + 1) ((c + (p.getD k 0 + ys.getD k 0)) / 1000000000) := by
  obtain ⟨h1, h2, h3, h4, h5⟩ := h
  have hx := h2 k
  refine ⟨by simpa using h1, fun j => ?_, fun j hj => ?_, ?_, by omega⟩
  · rw [getD_set]; split
    · omega
    · exact h2 j
  · rw [getD_set, if_neg (by omega)]; exact h3 j (by omega)
  · rw [vl_take_succ, vl_take_succ, vl_take_succ, Nat.pow_succ, List.take_set_of_le (Nat.le_refl k), getD_set, if_pos ⟨rfl, by omega⟩, ← h3 k (Nat.le_refl k)]
    exact rs_ring 1000000000 _ _ _ _ c _ _ _ _ _ h4 rfl (Nat.mod_add_div _ _)

set_option maxRecDepth 100000 in
set_option maxHeartbeats 800000 in
theorem restore_any (base g L cap m cp : Nat) (pre p0 post ys : List Nat) (hm : p0.length = m) (B : Option Addr) (cb : Nat) (w : World) (hg : base ≤ g) (hm1 : m ≤ 1073741825) (hi1 : pre.length ≤ 1073741825)
    (hown : w.ownsRow base 77 1 (.slice (some ⟨g, 0, none⟩) L cap) L ((pre ++ p0 ++ post).map encU)) (hB : ∀ W, Below base w W → SlA encU W B ys) (hy : ∀ d ∈ ys, d < 1000000000) (hp : ∀ j, p0.getD j 0 < 1000000000) :
    Calls Tryd.prog 84 #[.slice (some ⟨g, pre.length, none⟩) m cp, .slice B ys.length cb] w fun e w' => ∃ p c, e = .returned (.tuple #[]) ∧
      w'.ownsRow base 77 1 (.slice (some ⟨g, 0, none⟩) L cap) L ((pre ++ p ++ post).map encU) ∧ RsInv p0 ys p m c ∧ Below base w w' ∧ Only g w w' := by
  have HY := Lib.hid (getD_lt 1000000000 ys hy (by omega))
  have HS := Lib.hid (RsInv.start p0 ys hp)
  have hmm : (m : Int) ≤ 1073741825 := by omega
  have hii : (pre.length : Int) ≤ 1073741825 := by omega
  clear hy hp
  go_enter Tryd.func84, Tryd.ntmps84
  go_wp2
  go_loopw [4, 8] (fun cy i wr => ∃ (k c : Nat) (p : List Nat), k ≤ m ∧ i = .int .i64 k ∧ cy = .int .u32 c ∧ wr.ownsRow base 77 1 (.slice (some ⟨g, 0, none⟩) L cap) L ((pre ++ p ++ post).map encU) ∧ Hid (RsInv p0 ys p k c) ∧ Below base w wr ∧ Only g w wr) (fun _ i _ => m - (intOf i).toNat)
  case atStart => exact ⟨0, 0, p0, by omega, rfl, rfl, hown, HS, Below.refl _ _, Only.refl _ _⟩
  case round =>
    clear hown HS
    obtain ⟨k, c, p, hk, rfl, rfl, hown, hinv, hbel, hon⟩ := hrel
    by_cases hkm : k < m
    · have hkl : k < p.length := by have := hinv.out.1; omega
      have HI := Lib.hid (hinv.out.step (by omega) (HY.out k))
      have hc5 := hinv.out.2.2.2.2
      have hx := hinv.out.2.1 k
      have hy := HY.out k
      have TA := Lib.hid (fun dn => mat_any B cb ys (wr.drewN dn) (hB _ (below_drewN hbel dn)) k)
      have hcell := own_cellU hown (pre.length + k) (by simp; omega)
      rw [getD_mid _ _ _ _ hkl] at hcell
      generalize p.getD k 0 = x at *
      generalize ys.getD k 0 = y at *
      obtain ⟨G, hG⟩ : ∃ G, (c + (x + y)) % 1000000000 = G := ⟨_, rfl⟩
      obtain ⟨q, hq⟩ : ∃ q, (c + (x + y)) / 1000000000 = q := ⟨_, rfl⟩
      rw [hG, hq] at HI
      have eG : ((c : Int) + ((x : Int) + (y : Int))) % 1000000000 = (G : Int) := by omega
      have eq : ((c : Int) + ((x : Int) + (y : Int))) / 1000000000 = (q : Int) := by omega
      have c1 : (c : Int) ≤ 1 := by omega
      have c3 : (G : Int) ≤ 999999999 := by omega
      have c4 : (q : Int) ≤ 2 := by omega
      have c5 : (x : Int) ≤ 999999999 := by omega
      have c6 : (y : Int) ≤ 999999999 := by omega
      have c7 : (k : Int) < (m : Int) := by omega
      have c8 : (0 : Int) ≤ (k : Int) := by omega
      have c9 : ((k : Int)).toNat = k := by omega
      clear hx hy hG hq hc5 hinv
      go_wp2_with fail
      go_quiet ((go_at_call 85; exact Calls.quiet_of_same ((TA.out _).mono fun _ _ h => ⟨h.1, h.2.symm⟩)))
      have hownD : (wr.drewN nq).ownsRow base 77 1 (.slice (some ⟨g, 0, none⟩) L cap) L ((pre ++ p ++ post).map encU) := hown
      have hbelD : Below base w (wr.drewN nq) := below_drewN hbel nq
      have honD : Only g w (wr.drewN nq) := hon
      have hcellD : (wr.drewN nq).cell? ⟨g, pre.length + k, none⟩ = some (.int .u32 (x : Int)) := hcell
      clear hown hbel hcell hon TA
      generalize wr.drewN nq = wq at *
      have hfr := hownD.frozenAt (pre.length + k)
      have HOW : Hid (∀ v : Nat, ∀ z : Int, (v : Int) = z → (wq.setCell ⟨g, pre.length + k, none⟩ (.int .u32 z)).ownsRow base 77 1 (.slice (some ⟨g, 0, none⟩) L cap) L ((pre ++ p.set k v ++ post).map encU)) := fun v z hz => by
        have := own_setU hownD (pre.length + k) v hz
        rwa [set_mid _ _ _ _ _ hkl] at this
      clear hownD
      go_wp2
      go_roundw
      case rel => exact ⟨k + 1, q, _, by omega, by go_num, int_eq (by omega), HOW.out G _ (by omega), HI, hbelD.setCell (p := ⟨g, pre.length + k, none⟩) hg _, honD.setCell _ _⟩
      case measure => simp [intOf]; omega
    · obtain rfl : k = m := by omega
      have HOW := Lib.hid hown
      clear hown
      go_wp2
      go_end0
      exact ⟨p, c, rfl, HOW.out, hinv.out, hbel, hon⟩
end Go.Proofs.YtlipjedofegciaaDoor

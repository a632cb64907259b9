/- The walks of layer 1: taking a multiple of the divisor off a part of the rest. -/
import Derived.Test.YtlipjedofegciaaDoorIntK
namespace Go.Proofs.YtlipjedofegciaaDoor
open Go Go.RowKit

/-- Nothing but block g has turned. -/
def Only (g : Nat) (w w' : World) : Prop := ∀ b, b ≠ g → w'.heap[b]? = w.heap[b]?
theorem Only.refl (g : Nat) (w : World) : Only g w w := fun _ _ => rfl
theorem Only.setCell {g : Nat} {w w' : World} (h : Only g w w') (o : Nat) (v : Value) : Only g w (w'.setCell ⟨g, o, none⟩ v) := fun b hb => (Below.heap_setCell w' ⟨g, o, none⟩ v b hb).trans (h b hb)

def TkInv (p0 ys : List Nat) (t : Nat) (p : List Nat) (k c : Nat) : Prop :=
  p.length = p0.length ∧ (∀ j, p.getD j 0 < 1000000000) ∧ (∀ j, k ≤ j → p.getD j 0 = p0.getD j 0) ∧
    vl 1000000000 (p.take k) + t * vl 1000000000 (ys.take k) = vl 1000000000 (p0.take k) + 1000000000 ^ k * c ∧ c ≤ 1000000001
theorem TkInv.start (p0 ys : List Nat) (t : Nat) (h : ∀ j, p0.getD j 0 < 1000000000) : TkInv p0 ys t p0 0 0 :=
  ⟨rfl, h, fun _ _ => rfl, by simp [vl], by omega⟩
theorem tk_ring (B A t Y P T c new x y g q δ : Nat) (h : A + t * Y = P + T * c) (h1 : x + B * δ = g + new) (h2 : c + t * y = g + B * q) :
    A + T * new + t * (Y + T * y) = P + T * x + T * B * (q + δ) := by grind
theorem TkInv.step {p0 ys p : List Nat} {t k c : Nat} (h : TkInv p0 ys t p k c) (hk : k < p0.length) (ht : t ≤ 1000000000) (hy : ys.getD k 0 < 1000000000) (new δ : Nat) (hδ : δ ≤ 1)
    (hn : p.getD k 0 + 1000000000 * δ = (c + t * ys.getD k 0) % 1000000000 + new) (hb : new < 1000000000) :
    TkInv p0 ys t (p.set k new) (k + 1) ((c + t * ys.getD k 0) / 1000000000 + δ) := by
  obtain ⟨h1, h2, h3, h4, h5⟩ := h
  have h2k : t * ys.getD k 0 ≤ 1000000000 * 999999999 := Nat.mul_le_mul ht (by omega)
  refine ⟨by simpa using h1, fun j => ?_, fun j hj => ?_, ?_, by omega⟩
  · rw [getD_set]; split
    · exact hb
    · exact h2 j
  · rw [getD_set, if_neg (by omega)]; exact h3 j (by omega)
  · rw [vl_take_succ, vl_take_succ, vl_take_succ, Nat.pow_succ, List.take_set_of_le (Nat.le_refl k), getD_set, if_pos ⟨rfl, by omega⟩, ← h3 k (Nat.le_refl k)]
    exact tk_ring 1000000000 _ t _ _ _ c new _ _ _ _ δ h4 hn (by rw [Nat.mod_add_div])
theorem set_mid (pre p post : List Nat) (k v : Nat) (hk : k < p.length) : (pre ++ p ++ post).set (pre.length + k) v = pre ++ p.set k v ++ post := by
  rw [List.append_assoc, List.set_append_right _ _ (by omega), Nat.add_sub_cancel_left, List.set_append_left _ _ hk, List.append_assoc]
theorem getD_mid (pre p post : List Nat) (k : Nat) (hk : k < p.length) : (pre ++ p ++ post).getD (pre.length + k) 0 = p.getD k 0 := by
  simp only [List.getD_eq_getElem?_getD]
  rw [List.append_assoc, List.getElem?_append_right (by omega), Nat.add_sub_cancel_left, List.getElem?_append_left hk]

set_option maxRecDepth 100000 in
set_option maxHeartbeats 800000 in
theorem take_any (base g L cap m cp : Nat) (pre p0 post ys : List Nat) (hm : p0.length = m) (B : Option Addr) (cb t : Nat) (ht : t ≤ 1000000000) (w : World) (hg : base ≤ g) (hm1 : m ≤ 1073741825) (hi1 : pre.length ≤ 1073741825)
    (hown : w.ownsRow base 77 1 (.slice (some ⟨g, 0, none⟩) L cap) L ((pre ++ p0 ++ post).map encU)) (hB : ∀ W, Below base w W → SlA encU W B ys) (hy : ∀ d ∈ ys, d < 1000000000) (hp : ∀ j, p0.getD j 0 < 1000000000) :
    Calls Tryd.prog 83 #[.slice (some ⟨g, pre.length, none⟩) m cp, .slice B ys.length cb, .int .u64 t] w fun e w' => ∃ p c, e = .returned (.bool (decide (0 < c))) ∧
      w'.ownsRow base 77 1 (.slice (some ⟨g, 0, none⟩) L cap) L ((pre ++ p ++ post).map encU) ∧ TkInv p0 ys t p m c ∧ Below base w w' ∧ Only g w w' := by
  have HY := Lib.hid (getD_lt 1000000000 ys hy (by omega))
  have HS := Lib.hid (TkInv.start p0 ys t hp)
  have htt : (t : Int) ≤ 1000000000 := by omega
  have hmm : (m : Int) ≤ 1073741825 := by omega
  have hii : (pre.length : Int) ≤ 1073741825 := by omega
  clear hy hp
  go_enter Tryd.func83, Tryd.ntmps83
  go_wp2
  go_loopw [7, 12] (fun cy i wr => ∃ (k c : Nat) (p : List Nat), k ≤ m ∧ i = .int .i64 k ∧ cy = .int .u64 c ∧ wr.ownsRow base 77 1 (.slice (some ⟨g, 0, none⟩) L cap) L ((pre ++ p ++ post).map encU) ∧ Hid (TkInv p0 ys t p k c) ∧ Below base w wr ∧ Only g w wr) (fun _ i _ => m - (intOf i).toNat)
  case atStart => exact ⟨0, 0, p0, by omega, rfl, rfl, hown, HS, Below.refl _ _, Only.refl _ _⟩
  case round =>
    clear hown HS
    obtain ⟨k, c, p, hk, rfl, rfl, hown, hinv, hbel, hon⟩ := hrel
    by_cases hkm : k < m
    · have hkl : k < p.length := by have := hinv.out.1; omega
      have HI := Lib.hid (hinv.out.step (by omega) ht (HY.out k))
      have hc5 := hinv.out.2.2.2.2
      have hx := hinv.out.2.1 k
      have hy := HY.out k
      have TA := Lib.hid (mat_any B cb ys wr (hB wr hbel) k)
      have hcell := own_cellU hown (pre.length + k) (by simp; omega)
      rw [getD_mid _ _ _ _ hkl] at hcell
      have hfr := hown.frozenAt (pre.length + k)
      have HOW : Hid (∀ v : Nat, ∀ z : Int, (v : Int) = z → (wr.setCell ⟨g, pre.length + k, none⟩ (.int .u32 z)).ownsRow base 77 1 (.slice (some ⟨g, 0, none⟩) L cap) L ((pre ++ p.set k v ++ post).map encU)) := fun v z hz => by
        have := own_setU hown (pre.length + k) v hz
        rwa [set_mid _ _ _ _ _ hkl] at this
      have HOX : Hid (∀ u v : Nat, ∀ y z : Int, (u : Int) = y → (v : Int) = z → ((wr.setCell ⟨g, pre.length + k, none⟩ (.int .u32 y)).setCell ⟨g, pre.length + k, none⟩ (.int .u32 z)).ownsRow base 77 1 (.slice (some ⟨g, 0, none⟩) L cap) L ((pre ++ p.set k v ++ post).map encU)) := fun u v y z hy hz => by
        have := own_setU (own_setU hown (pre.length + k) u hy) (pre.length + k) v hz
        rwa [List.set_set, set_mid _ _ _ _ _ hkl] at this
      clear hinv hown
      generalize p.getD k 0 = x at *
      generalize ys.getD k 0 = y at *
      have hty : t * y ≤ 1000000000 * 999999999 := Nat.mul_le_mul ht (by omega)
      obtain ⟨P, hP⟩ : ∃ P, t * y = P := ⟨_, rfl⟩
      rw [hP] at HI hty
      have eP : (t : Int) * (y : Int) = (P : Int) := by rw [← hP, Int.natCast_mul]
      obtain ⟨G, hG⟩ : ∃ G, (c + P) % 1000000000 = G := ⟨_, rfl⟩
      obtain ⟨q, hq⟩ : ∃ q, (c + P) / 1000000000 = q := ⟨_, rfl⟩
      rw [hG, hq] at HI
      have eG : ((c : Int) + (P : Int)) % 1000000000 = (G : Int) := by omega
      have eq : ((c : Int) + (P : Int)) / 1000000000 = (q : Int) := by omega
      have c1 : (c : Int) ≤ 1000000001 := by omega
      have c2 : (P : Int) ≤ 999999999000000000 := by omega
      have c3 : (G : Int) ≤ 999999999 := by omega
      have c4 : (q : Int) ≤ 1000000001 := by omega
      have c5 : (x : Int) ≤ 999999999 := by omega
      have c6 : (y : Int) ≤ 999999999 := by omega
      have c7 : (k : Int) < (m : Int) := by omega
      have c8 : (0 : Int) ≤ (k : Int) := by omega
      have c9 : ((k : Int)).toNat = k := by omega
      clear hx hy hty hP hG hq hc5
      by_cases hxg : x < G
      · have hxg' : (x : Int) < (G : Int) := by omega
        have HI2 := Lib.hid (HI.out (x + 1000000000 - G) 1 (by omega) (by omega) (by omega))
        have HO2 := Lib.hid (HOX.out (x + 1000000000) (x + 1000000000 - G) ((x : Int) + 1000000000) ((x : Int) + 1000000000 - (G : Int)) (by omega) (by omega))
        clear HI HOW HOX hxg
        go_wp2_with (go_at_call 85; refine TA.out.mono ?_; rintro e w' ⟨rfl, rfl⟩)
        go_roundw
        case rel => exact ⟨k + 1, q + 1, _, by omega, by go_num, by go_num, HO2.out, HI2, (hbel.setCell (p := ⟨g, pre.length + k, none⟩) hg _).setCell (p := ⟨g, pre.length + k, none⟩) hg _, (hon.setCell _ _).setCell _ _⟩
        case measure => simp [intOf]; omega
      · have hxg' : ¬ (x : Int) < (G : Int) := by omega
        have hxg2 : (G : Int) ≤ (x : Int) := by omega
        have HI2 := Lib.hid (HI.out (x - G) 0 (by omega) (by omega) (by omega))
        have HO2 := Lib.hid (HOW.out (x - G) ((x : Int) - (G : Int)) (by omega))
        clear HI HOW HOX hxg
        go_wp2_with (go_at_call 85; refine TA.out.mono ?_; rintro e w' ⟨rfl, rfl⟩)
        go_roundw
        case rel => exact ⟨k + 1, q, _, by omega, by go_num, int_eq (by omega), HO2.out, HI2, hbel.setCell (p := ⟨g, pre.length + k, none⟩) hg _, hon.setCell _ _⟩
        case measure => simp [intOf]; omega
    · obtain rfl : k = m := by omega
      have c1 : (c : Int) ≤ 1000000001 := by have := hinv.out.2.2.2.2; omega
      have HOW := Lib.hid hown
      clear hown
      go_wp2
      go_ret
      exact ⟨p, c, ret_bool (by simp), HOW.out, hinv.out, hbel, hon⟩
end Go.Proofs.YtlipjedofegciaaDoor

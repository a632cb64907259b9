/- Layer 7: the program's walks: ToUnits and FromUnits; what they answer. -/
import Derived.Test.YtalnfbgaiegicaaGreatDoorRatAf
import Derived.Test.YtalnfbgaiegicaaGreatDoorIntA3
import Derived.Test.YtalnfbgaiegicaaGreatDoorMoE
namespace Go.Proofs.YtalnfbgaiegicaaGreatDoor
open Go Go.RowKit

/-- The variables that layer 7 reads. -/
structure VarM (w : World) : Prop where
  v : Vars w
  ml : ∃ m, w.cell? ⟨0, 0, none⟩ = some (.int .i64 m)
theorem VarM.r {w : World} (h : VarM w) : VarR w := ⟨h.v.t, h.ml⟩
theorem VarM.below {w w' : World} (h : VarM w) (hb : Below w.heap.size w w') : VarM w' := ⟨h.v.below hb, (h.r.below hb).ml⟩
/-- An integer as an amount. -/
def amV (z : Int) : Int := if amB z then z else 0
def amE (z : Int) : Int := if amB z then 0 else 14
theorem toS_itoa (z : Int) : (toS (Lib.itoa z) = (z, 0) ∧ -9223372036854775808 ≤ z ∧ z ≤ 9223372036854775807) ∨ (toS (Lib.itoa z) = (0, 14) ∧ amB z = false) := by
  unfold toS
  rw [chk_itoa, num_itoa]
  have hl : lim > 9223372036854775808 := by
    have h3 : (10 : Nat) ^ 20 ≤ lim := le_lim 20 (by omega)
    have h4 : (10 : Nat) ^ 20 = 100000000000000000000 := by decide
    omega
  by_cases h : z.natAbs < lim
  · rw [if_pos h, if_pos rfl]
    by_cases g : -9223372036854775808 ≤ z ∧ z ≤ 9223372036854775807
    · rw [if_pos g]; exact .inl ⟨rfl, g⟩
    · rw [if_neg g]
      refine .inr ⟨rfl, ?_⟩
      rw [Bool.eq_false_iff]; intro e
      have := (amB_iff z).1 e
      omega
  · rw [if_neg h, if_neg (by decide)]
    refine .inr ⟨rfl, ?_⟩
    rw [Bool.eq_false_iff]; intro e
    have := (amB_iff z).1 e
    omega
set_option maxRecDepth 100000 in
set_option maxHeartbeats 800000 in
theorem amountOf_any (z : Int) (s : ByteArray) (hs : s.data.toList = Lib.itoa z) (hsz : s.size ≤ 1099511627776) (w : World) (hv : VarM w) :
    Calls Tryz.prog 35 #[.string s] w (UnR (amV z) (amE z) w) := by
  have h := to_any s hsz w hv.v
  rw [hs] at h
  unfold amV amE
  rcases toS_itoa z with ⟨h1, h2, h3⟩ | ⟨h1, h2⟩
  · rw [h1] at h
    have HT := Lib.hid h
    have HA := Lib.hid (fun b h => pamount_any z b h)
    clear h hs hsz hv h1
    cases hb : amB z
    · have HC := Lib.hid (HA.out false hb)
      rw [if_neg (by decide), if_neg (by decide)]
      clear HA hb
      go_enter Tryz.func35, Tryz.ntmps35
      go_wp2_with (first
        | (go_at_call 67; ((with_reducible refine HT.out.mono ?_); rintro e w1 ⟨rfl, b⟩; have B1 := Lib.hid b; clear b))
        | (go_at_call 36; ((with_reducible refine (HC.out _).mono ?_); rintro e w2 ⟨rfl, rfl⟩)))
      go_ret2
      exact ⟨rfl, B1.out⟩
    · have HC := Lib.hid (HA.out true hb)
      rw [if_pos rfl, if_pos rfl]
      clear HA hb
      go_enter Tryz.func35, Tryz.ntmps35
      go_wp2_with (first
        | (go_at_call 67; ((with_reducible refine HT.out.mono ?_); rintro e w1 ⟨rfl, b⟩; have B1 := Lib.hid b; clear b))
        | (go_at_call 36; ((with_reducible refine (HC.out _).mono ?_); rintro e w2 ⟨rfl, rfl⟩)))
      go_ret2
      exact ⟨rfl, B1.out⟩
  · rw [h1] at h
    have HT := Lib.hid h
    rw [h2, if_neg (by decide), if_neg (by decide)]
    clear h hs hsz hv h1 h2
    go_enter Tryz.func35, Tryz.ntmps35
    go_wp2_with (go_at_call 67; ((with_reducible refine HT.out.mono ?_); rintro e w1 ⟨rfl, b⟩; have B1 := Lib.hid b; clear b))
    go_ret2
    exact ⟨rfl, B1.out⟩
/-- What ToUnits answers. -/
def uq (u : Nat) : Rat := ((((10 ^ u : Nat) : Int)) : Rat)
def tuN (r c : List UInt8) (m : Int) : Int := rndQ m.toNat (qv r * uq (unU c))
def tuE (r c : List UInt8) (m : Int) : Int := if nameB c = true ∧ m ≤ 4 then (if chkR r = 0 then (if mulC (qv r) (uq (unU c)) = 0 then amE (tuN r c m) else 14) else 12) else 2
def tuV (r c : List UInt8) (m : Int) : Int := if tuE r c m = 0 then tuN r c m else 0
theorem ten_le (c : List UInt8) : (1 : Int) ≤ ((10 ^ unU c : Nat) : Int) ∧ ((10 ^ unU c : Nat) : Int) ≤ 1000 := by
  rcases unU_cases c with h | h | h <;> rw [h] <;> decide
theorem mulC_cases (a b : Rat) : mulC a b = 0 ∨ mulC a b = 14 := by unfold mulC; split; exact .inl rfl; exact .inr rfl
theorem lim_big : 100000000000000000000 ≤ lim := by
  have h3 : (10 : Nat) ^ 20 ≤ lim := le_lim 20 (by omega)
  have h4 : (10 : Nat) ^ 20 = 100000000000000000000 := by decide
  omega
theorem sml_int {z : Int} (h : z.natAbs < lim) : Sml (z : Rat) := by
  refine ⟨by rw [Rat.num_intCast]; exact h, ?_⟩
  rw [Rat.den_intCast]
  have := lim_big
  show 1 < lim
  omega
theorem sml_uq (c : List UInt8) : Sml (uq (unU c)) := sml_int (by
  have := ten_le c
  have := lim_big
  omega)
theorem rq_uq (u : Nat) : rq (uq u) = rep ((10 ^ u : Nat) : Int) := rq_int _
theorem amE_zero (z : Int) : amE z = 0 ↔ amB z = true := by unfold amE; cases amB z <;> simp
section
set_option maxRecDepth 100000
set_option maxHeartbeats 1600000
theorem ptou_unit (s c : ByteArray) (m uv ue : Int) (_h0 : 0 ≤ m) (_h255 : m ≤ 255) (w : World) (hb : ue = 2 ∨ ue = 0 ∧ 4 < m)
    (H1 : Calls Tryz.prog 10 #[.string c] w (UnR uv ue w)) :
    Calls Tryz.prog 11 #[.string s, .string c, .int .u8 m] w (UnR 0 2 w) := by
  have J1 := Lib.hid H1
  clear H1
  rcases hb with rfl | ⟨rfl, hm⟩
  · go_enter Tryz.func11, Tryz.ntmps11
    go_wp2_with (go_at_call 10; ((with_reducible refine J1.out.mono ?_); rintro e w1 ⟨rfl, b⟩; have B1 := Lib.hid b; clear b))
    go_ret2
    exact ⟨rfl, B1.out⟩
  · go_enter Tryz.func11, Tryz.ntmps11
    go_wp2_with (go_at_call 10; ((with_reducible refine J1.out.mono ?_); rintro e w1 ⟨rfl, b⟩; have B1 := Lib.hid b; clear b))
    go_ret2
    exact ⟨rfl, B1.out⟩
theorem ptou_check (s c : ByteArray) (m uv k : Int) (h0 : 0 ≤ m) (hm : m ≤ 4) (hk : (k != 0) = true) (w : World) (hv : VarM w)
    (H1 : Calls Tryz.prog 10 #[.string c] w (UnR uv 0 w))
    (H2 : ∀ W, VarM W → Calls Tryz.prog 31 #[.string s] W (IntB k W)) :
    Calls Tryz.prog 11 #[.string s, .string c, .int .u8 m] w (UnR 0 12 w) := by
  have HV := Lib.hid hv
  have J1 := Lib.hid H1
  have J2 := Lib.hid H2
  clear hv H1 H2
  go_enter Tryz.func11, Tryz.ntmps11
  go_wp2_with (first
    | (go_at_call 10; ((with_reducible refine J1.out.mono ?_); rintro e w1 ⟨rfl, b⟩; have B1 := Lib.hid b; clear b))
    | (go_at_call 31; ((with_reducible refine (J2.out _ (HV.out.below B1.out)).mono ?_); rintro e w2 ⟨rfl, b⟩; have B2 := Lib.hid (btM B1.out b); clear b)))
  go_ret2
  exact ⟨rfl, B2.out⟩
theorem ptou_mul (s c O : ByteArray) (m uv one : Int) (h0 : 0 ≤ m) (hm : m ≤ 4) (w : World) (hv : VarM w)
    (H1 : Calls Tryz.prog 10 #[.string c] w (UnR uv 0 w))
    (H2 : ∀ W, VarM W → Calls Tryz.prog 31 #[.string s] W (IntB 0 W))
    (H3 : ∀ W, Calls Tryz.prog 33 #[.int .i64 uv] W fun e w' => e = .returned (.int .i64 one) ∧ W = w')
    (H4 : ∀ W, VarM W → Calls Tryz.prog 27 #[.int .i64 one] W (StrR O W))
    (H5 : ∀ W, VarM W → Calls Tryz.prog 32 #[.string s, .string O] W (StE ⟨#[]⟩ 14 W)) :
    Calls Tryz.prog 11 #[.string s, .string c, .int .u8 m] w (UnR 0 14 w) := by
  have HV := Lib.hid hv
  have J1 := Lib.hid H1
  have J2 := Lib.hid H2
  have J3 := Lib.hid H3
  have J4 := Lib.hid H4
  have J5 := Lib.hid H5
  clear hv H1 H2 H3 H4 H5
  go_enter Tryz.func11, Tryz.ntmps11
  go_wp2_with (first
    | (go_at_call 10; ((with_reducible refine J1.out.mono ?_); rintro e w1 ⟨rfl, b⟩; have B1 := Lib.hid b; clear b))
    | (go_at_call 31; ((with_reducible refine (J2.out _ (HV.out.below B1.out)).mono ?_); rintro e w2 ⟨rfl, b⟩; have B2 := Lib.hid (btM B1.out b); clear b))
    | (go_at_call 33; ((with_reducible refine (J3.out _).mono ?_); rintro e w3 ⟨rfl, rfl⟩))
    | (go_at_call 27; ((with_reducible refine (J4.out _ (HV.out.below B2.out)).mono ?_); rintro e w4 ⟨rfl, b⟩; have B4 := Lib.hid (btM B2.out b); clear b))
    | (go_at_call 32; ((with_reducible refine (J5.out _ (HV.out.below B4.out)).mono ?_); rintro e w5 ⟨rfl, b⟩; have B5 := Lib.hid (btM B4.out b); clear b)))
  go_ret2
  exact ⟨rfl, B5.out⟩
theorem ptou_ok (s c O P Z : ByteArray) (m uv one av ae : Int) (h0 : 0 ≤ m) (hm : m ≤ 4) (w : World) (hv : VarM w)
    (H1 : Calls Tryz.prog 10 #[.string c] w (UnR uv 0 w))
    (H2 : ∀ W, VarM W → Calls Tryz.prog 31 #[.string s] W (IntB 0 W))
    (H3 : ∀ W, Calls Tryz.prog 33 #[.int .i64 uv] W fun e w' => e = .returned (.int .i64 one) ∧ W = w')
    (H4 : ∀ W, VarM W → Calls Tryz.prog 27 #[.int .i64 one] W (StrR O W))
    (H5 : ∀ W, VarM W → Calls Tryz.prog 32 #[.string s, .string O] W (StE P 0 W))
    (H6 : ∀ W, VarM W → Calls Tryz.prog 34 #[.string P, .int .u8 m] W (StE Z 0 W))
    (H7 : ∀ W, VarM W → Calls Tryz.prog 35 #[.string Z] W (UnR av ae W)) :
    Calls Tryz.prog 11 #[.string s, .string c, .int .u8 m] w (UnR av ae w) := by
  have HV := Lib.hid hv
  have J1 := Lib.hid H1
  have J2 := Lib.hid H2
  have J3 := Lib.hid H3
  have J4 := Lib.hid H4
  have J5 := Lib.hid H5
  have J6 := Lib.hid H6
  have J7 := Lib.hid H7
  clear hv H1 H2 H3 H4 H5 H6 H7
  go_enter Tryz.func11, Tryz.ntmps11
  go_wp2_with (first
    | (go_at_call 10; ((with_reducible refine J1.out.mono ?_); rintro e w1 ⟨rfl, b⟩; have B1 := Lib.hid b; clear b))
    | (go_at_call 31; ((with_reducible refine (J2.out _ (HV.out.below B1.out)).mono ?_); rintro e w2 ⟨rfl, b⟩; have B2 := Lib.hid (btM B1.out b); clear b))
    | (go_at_call 33; ((with_reducible refine (J3.out _).mono ?_); rintro e w3 ⟨rfl, rfl⟩))
    | (go_at_call 27; ((with_reducible refine (J4.out _ (HV.out.below B2.out)).mono ?_); rintro e w4 ⟨rfl, b⟩; have B4 := Lib.hid (btM B2.out b); clear b))
    | (go_at_call 32; ((with_reducible refine (J5.out _ (HV.out.below B4.out)).mono ?_); rintro e w5 ⟨rfl, b⟩; have B5 := Lib.hid (btM B4.out b); clear b))
    | (go_at_call 34; ((with_reducible refine (J6.out _ (HV.out.below B5.out)).mono ?_); rintro e w6 ⟨rfl, b⟩; have B6 := Lib.hid (btM B5.out b); clear b))
    | (go_at_call 35; ((with_reducible refine (J7.out _ (HV.out.below B6.out)).mono ?_); rintro e w7 ⟨rfl, b⟩; have B7 := Lib.hid (btM B6.out b); clear b)))
  go_ret2
  exact ⟨rfl, B7.out⟩
end
theorem mulC_ok' {a b : Rat} (h : mulC a b = 0) : Sml (a * b) := (mulC_ok h).2.2
theorem tu_name {r c : List UInt8} {m : Int} (h : nameB c = false ∨ 4 < m) : tuE r c m = 2 ∧ tuV r c m = 0 := by
  have e : tuE r c m = 2 := by
    unfold tuE
    rw [if_neg]
    rintro ⟨h1, h2⟩
    rcases h with h | h
    · rw [h] at h1; cases h1
    · omega
  refine ⟨e, ?_⟩
  unfold tuV; rw [e]; rfl
theorem tu_check {r c : List UInt8} {m : Int} (h1 : nameB c = true) (h2 : m ≤ 4) (h3 : ¬ chkR r = 0) : tuE r c m = 12 ∧ tuV r c m = 0 := by
  have e : tuE r c m = 12 := by unfold tuE; rw [if_pos ⟨h1, h2⟩, if_neg h3]
  refine ⟨e, ?_⟩
  unfold tuV; rw [e]; rfl
theorem tu_mul {r c : List UInt8} {m : Int} (h1 : nameB c = true) (h2 : m ≤ 4) (h3 : chkR r = 0) (h4 : mulC (qv r) (uq (unU c)) = 14) : tuE r c m = 14 ∧ tuV r c m = 0 := by
  have e : tuE r c m = 14 := by unfold tuE; rw [if_pos ⟨h1, h2⟩, if_pos h3, if_neg (by rw [h4]; decide)]
  refine ⟨e, ?_⟩
  unfold tuV; rw [e]; rfl
theorem tu_ok {r c : List UInt8} {m : Int} (h1 : nameB c = true) (h2 : m ≤ 4) (h3 : chkR r = 0) (h4 : mulC (qv r) (uq (unU c)) = 0) : tuE r c m = amE (tuN r c m) ∧ tuV r c m = amV (tuN r c m) := by
  have e : tuE r c m = amE (tuN r c m) := by unfold tuE; rw [if_pos ⟨h1, h2⟩, if_pos h3, if_pos h4]
  refine ⟨e, ?_⟩
  unfold tuV; rw [e]; unfold amE amV; cases amB (tuN r c m) <;> simp
theorem rep_len {z : Int} (h : z.natAbs < lim) : (rep z).size ≤ 1099511627776 := by
  have := len_of_chk (chk_of_abs h)
  show (Lib.itoa z).length ≤ _
  omega
theorem ptounits_any (s c : ByteArray) (hs : s.size ≤ 1048576) (m : Int) (h0 : 0 ≤ m) (h255 : m ≤ 255) (w : World) (hv : VarM w) :
    Calls Tryz.prog 11 #[.string s, .string c, .int .u8 m] w (UnR (tuV s.data.toList c.data.toList m) (tuE s.data.toList c.data.toList m) w) := by
  have hU := punit_any c w
  obtain ⟨t1, t2⟩ := ten_le c.data.toList
  cases hn : nameB c.data.toList
  · obtain ⟨e1, e2⟩ := tu_name (r := s.data.toList) (m := m) (.inl hn)
    rw [e1, e2]
    unfold unE at hU
    rw [if_neg (by rw [hn]; decide)] at hU
    exact ptou_unit s c m _ _ h0 h255 w (.inl rfl) hU
  unfold unE unV at hU
  rw [if_pos hn, if_pos hn] at hU
  by_cases h4 : m ≤ 4
  · have H2 := fun W (hW : VarM W) => rcheck_any s hs W hW.r
    by_cases hc : chkR s.data.toList = 0
    · rw [hc] at H2
      rcases text_cases s with hbad | ⟨q, rfl, hq⟩
      · exact absurd hc hbad
      have H3 := fun W => pones_any (unU c.data.toList) (unU_cases _) W
      have H4 : ∀ W, VarM W → Calls Tryz.prog 27 #[.int .i64 ((10 ^ unU c.data.toList : Nat) : Int)] W (StrR (rq (uq (unU c.data.toList))) W) := fun W hW => by
        rw [rq_uq]
        exact rof_any _ (by omega) (by omega) W hW.v.t
      have H5 := fun W (hW : VarM W) => rmul_any (rq q) (rq (uq (unU c.data.toList))) hs (Nat.le_trans (rq_size (sml_uq _)) (by decide)) W hW.r
      rw [twT_rq hq (sml_uq _), twC_rq hq (sml_uq _)] at H5
      rcases mulC_cases q (uq (unU c.data.toList)) with hm | hm
      · obtain ⟨e1, e2⟩ := tu_ok (r := (rq q).data.toList) (c := c.data.toList) (m := m) hn h4 hc (by rw [qv_rq]; exact hm)
        rw [e1, e2]
        rw [hm, qT_ok] at H5
        have hp := mulC_ok' hm
        have H6 := fun W (hW : VarM W) => Round_any (rq (q * uq (unU c.data.toList))) (Nat.le_trans (rq_size hp) (by decide)) m h0 h255 W hW.r
        have hr : roC m (rq (q * uq (unU c.data.toList))).data.toList = 0 := by unfold roC; rw [if_neg (by omega), rq_chk hp]
        unfold roT at H6
        rw [hr, if_pos rfl, qv_rq] at H6
        unfold tuN
        rw [qv_rq]
        have H7 := fun W (hW : VarM W) => amountOf_any (rndQ m.toNat (q * uq (unU c.data.toList))) (rep (rndQ m.toNat (q * uq (unU c.data.toList)))) (rep_data _) (rep_len (rndQ_abs _ hp)) W hW
        exact ptou_ok _ c _ _ _ m _ _ _ _ h0 h4 w hv hU H2 H3 H4 H5 H6 H7
      · obtain ⟨e1, e2⟩ := tu_mul (r := (rq q).data.toList) (c := c.data.toList) (m := m) hn h4 hc (by rw [qv_rq]; exact hm)
        rw [e1, e2]
        rw [hm, qT_err (by decide)] at H5
        exact ptou_mul _ c _ m _ _ h0 h4 w hv hU H2 H3 H4 H5
    · obtain ⟨e1, e2⟩ := tu_check (r := s.data.toList) (c := c.data.toList) (m := m) hn h4 hc
      rw [e1, e2]
      exact ptou_check s c m _ _ h0 h4 (by rw [bne_iff_ne]; exact hc) w hv hU H2
  · obtain ⟨e1, e2⟩ := tu_name (r := s.data.toList) (c := c.data.toList) (m := m) (.inr (by omega))
    rw [e1, e2]
    exact ptou_unit s c m _ _ h0 h255 w (.inr ⟨rfl, by omega⟩) hU
/-- What FromUnits answers. -/
def fuE (n : Int) (c : List UInt8) : Int := if nameB c && amB n then 0 else 2
def fuQ (n : Int) (c : List UInt8) : Rat := Rat.divInt n ((10 ^ unU c : Nat) : Int)
def fuT (n : Int) (c : List UInt8) : ByteArray := if nameB c && amB n then rq (fuQ n c) else ⟨#[]⟩
theorem fu_lim {n : Int} (h : amB n = true) (c : List UInt8) : n.natAbs < lim ∧ (((10 ^ unU c : Nat) : Int)).natAbs < lim ∧ ((10 ^ unU c : Nat) : Int) ≠ 0 := by
  have h1 := (amB_iff n).1 h
  have h2 := ten_le c
  have h3 := lim_big
  omega
section
set_option maxRecDepth 100000
set_option maxHeartbeats 1600000
theorem pfrom_bad (c : ByteArray) (n uv ue : Int) (w : World) (hb : ue = 2 ∨ ue = 0 ∧ amB n = false)
    (H1 : Calls Tryz.prog 10 #[.string c] w (UnR uv ue w)) :
    Calls Tryz.prog 12 #[.int .i64 n, .string c] w (StE ⟨#[]⟩ 2 w) := by
  have J1 := Lib.hid H1
  clear H1
  rcases hb with rfl | ⟨rfl, hm⟩
  · go_enter Tryz.func12, Tryz.ntmps12
    go_wp2_with (go_at_call 10; ((with_reducible refine J1.out.mono ?_); rintro e w1 ⟨rfl, b⟩; have B1 := Lib.hid b; clear b))
    go_ret2
    exact ⟨rfl, B1.out⟩
  · have J2 := Lib.hid (fun W => pamount_any n false hm W)
    clear hm
    go_enter Tryz.func12, Tryz.ntmps12
    go_wp2_with (first
      | (go_at_call 10; ((with_reducible refine J1.out.mono ?_); rintro e w1 ⟨rfl, b⟩; have B1 := Lib.hid b; clear b))
      | (go_at_call 36; ((with_reducible refine (J2.out _).mono ?_); rintro e w2 ⟨rfl, rfl⟩)))
    go_ret2
    exact ⟨rfl, B1.out⟩
theorem pfrom_ok (c R : ByteArray) (n uv one : Int) (w : World) (hv : VarM w) (hm : amB n = true)
    (H1 : Calls Tryz.prog 10 #[.string c] w (UnR uv 0 w))
    (H3 : ∀ W, Calls Tryz.prog 33 #[.int .i64 uv] W fun e w' => e = .returned (.int .i64 one) ∧ W = w')
    (H4 : ∀ W, VarM W → Calls Tryz.prog 37 #[.int .i64 n, .int .i64 one] W (StE R 0 W)) :
    Calls Tryz.prog 12 #[.int .i64 n, .string c] w (StE R 0 w) := by
  have HV := Lib.hid hv
  have J1 := Lib.hid H1
  have J2 := Lib.hid (fun W => pamount_any n true hm W)
  have J3 := Lib.hid H3
  have J4 := Lib.hid H4
  clear hm hv H1 H3 H4
  go_enter Tryz.func12, Tryz.ntmps12
  go_wp2_with (first
    | (go_at_call 10; ((with_reducible refine J1.out.mono ?_); rintro e w1 ⟨rfl, b⟩; have B1 := Lib.hid b; clear b))
    | (go_at_call 36; ((with_reducible refine (J2.out _).mono ?_); rintro e w2 ⟨rfl, rfl⟩))
    | (go_at_call 33; ((with_reducible refine (J3.out _).mono ?_); rintro e w3 ⟨rfl, rfl⟩))
    | (go_at_call 37; ((with_reducible refine (J4.out _ (HV.out.below B1.out)).mono ?_); rintro e w4 ⟨rfl, b⟩; have B4 := Lib.hid (btM B1.out b); clear b)))
  go_ret2
  exact ⟨rfl, B4.out⟩
end
theorem pfromunits_any (n : Int) (c : ByteArray) (w : World) (hv : VarM w) :
    Calls Tryz.prog 12 #[.int .i64 n, .string c] w (StE (fuT n c.data.toList) (fuE n c.data.toList) w) := by
  have hU := punit_any c w
  obtain ⟨t1, t2⟩ := ten_le c.data.toList
  unfold fuT fuE
  cases hn : nameB c.data.toList
  · rw [Bool.false_and, if_neg (by decide), if_neg (by decide)]
    unfold unE at hU
    rw [if_neg (by rw [hn]; decide)] at hU
    exact pfrom_bad c n _ _ w (.inl rfl) hU
  unfold unE unV at hU
  rw [if_pos hn, if_pos hn] at hU
  cases hm : amB n
  · rw [Bool.and_false, if_neg (by decide), if_neg (by decide)]
    exact pfrom_bad c n _ _ w (.inr ⟨rfl, hm⟩) hU
  · rw [Bool.and_true, if_pos rfl, if_pos rfl]
    obtain ⟨l1, l2, l3⟩ := fu_lim hm c.data.toList
    have h1 := (amB_iff n).1 hm
    have H4 := fun W (hW : VarM W) => ratio_any n ((10 ^ unU c.data.toList : Nat) : Int) (by omega) (by omega) (by omega) (by omega) W hW.v.t
    rw [mkS_ok (chk_rep l1 l2) (by rw [num_itoa]; exact l3), num_itoa, num_itoa, qN_rat l3, qD_rat l3] at H4
    exact pfrom_ok c _ n _ _ w hv hm hU (fun W => pones_any (unU c.data.toList) (unU_cases _) W) H4
end Go.Proofs.YtalnfbgaiegicaaGreatDoor

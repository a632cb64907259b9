/- Layer 7: the walk of MoneyRounds. -/
import Derived.Test.YtalnfbgaiegicaaGreatDoorMpL2
namespace Go.Proofs.YtalnfbgaiegicaaGreatDoor
open Go Go.RowKit

theorem neg1_text : rq (-1) = ⟨#[45, 49]⟩ := by decide +kernel
theorem nhlf_text : rq (-hlf) = ⟨#[45, 49, 47, 50]⟩ := by decide +kernel
theorem qd_neg1 : QD 1 (-1) := by unfold QD Dg; decide +kernel
theorem qd_nhlf : QD 1 (-hlf) := by unfold QD Dg; decide +kernel
theorem cmpQ_neg1 (q : Rat) : cmpQ q (-1) = cmpZ q.num (-(q.den : Int)) := by
  rw [← cmpZ_rat]
  have h1 : (-1 : Rat).num = -1 := by decide +kernel
  have h2 : (-1 : Rat).den = 1 := by decide +kernel
  rw [h1, h2]
  congr 1 <;> omega
theorem cmpQ_nhlf (q : Rat) : cmpQ q (-hlf) = cmpZ (2 * q.num) (-(q.den : Int)) := by
  rw [← cmpZ_rat]
  have h1 : (-hlf).num = -1 := by decide +kernel
  have h2 : (-hlf).den = 2 := by decide +kernel
  rw [h1, h2]
  congr 1 <;> omega
/-- What the law asks, by the numbers of its five comparisons. -/
def RdK (m g z l h : Int) : Prop :=
  (m = 0 ∧ (z = 0 ∨ (z = 1 ∧ g = 1) ∨ (z = -1 ∧ g = -1))) ∨ (m = 1 ∧ (z = 0 ∨ (z = 1 ∧ g = -1) ∨ (z = -1 ∧ g = 1))) ∨ (m = 4 ∧ 0 ≤ z) ∨ ((m = 2 ∨ m = 3) ∧ 0 ≤ l ∧ h ≤ 0)
theorem off_parts (m : Nat) (q : Rat) : (q - ((rndQ m q : Int) : Rat)).num = -nrP m q ∧ ((q - ((rndQ m q : Int) : Rat)).den : Int) = q.den := by
  have h := near_parts m q
  have e : q - ((rndQ m q : Int) : Rat) = -(((rndQ m q : Int) : Rat) - q) := by rw [Rat.neg_sub]
  rw [e, Rat.neg_num, Rat.neg_den, h.1]
  exact ⟨rfl, h.2⟩
set_option maxHeartbeats 3200000 in
theorem round_facts (m : Nat) (q : Rat) (hm : m ≤ 4) :
    cmpQ (q - ((rndQ m q : Int) : Rat)) (-1) = 1 ∧ cmpQ (q - ((rndQ m q : Int) : Rat)) 1 = -1 ∧
    RdK m (cmpQ q 0) (cmpQ (q - ((rndQ m q : Int) : Rat)) 0) (cmpQ (q - ((rndQ m q : Int) : Rat)) (-hlf)) (cmpQ (q - ((rndQ m q : Int) : Rat)) hlf) := by
  obtain ⟨o1, o2⟩ := off_parts m q
  rw [cmpQ_neg1, cmpQ_one, cmpQ_zero, cmpQ_zero, cmpQ_nhlf, cmpQ_half, o1, o2]
  have hd := q.den_pos
  unfold RdK
  by_cases h1 : q.den = 1
  · have hp : nrP m q = 0 := by
      unfold nrP rndQ
      rw [h1, Int.natCast_one, Int.emod_one, if_pos rfl, Int.ediv_one]
      omega
    rw [hp, h1]
    have hmm : m = 0 ∨ m = 1 ∨ m = 2 ∨ m = 3 ∨ m = 4 := by omega
    rcases hmm with rfl | rfl | rfl | rfl | rfl
    · exact ⟨rfl, rfl, .inl ⟨rfl, .inl rfl⟩⟩
    · exact ⟨rfl, rfl, .inr (.inl ⟨rfl, .inl rfl⟩)⟩
    · exact ⟨rfl, rfl, .inr (.inr (.inr ⟨.inl rfl, by decide, by decide⟩))⟩
    · exact ⟨rfl, rfl, .inr (.inr (.inr ⟨.inr rfl, by decide, by decide⟩))⟩
    · exact ⟨rfl, rfl, .inr (.inr (.inl ⟨rfl, by decide⟩))⟩
  · obtain ⟨f1, s, g, h, e1, e2, e3, f2, f3, f4, f5, f6, f7⟩ := near_facts m q hm h1
    generalize nrP m q = p at *
    generalize rndQ m q = N at *
    generalize q.num = n at *
    have hdp : 0 < (q.den : Int) := by omega
    generalize (q.den : Int) = d at *
    have t0 := cmpZ_tri p 0
    have t1 := cmpZ_tri n 0
    have t2 := cmpZ_tri (2 * (p.natAbs : Int)) d
    have t3 := cmpZ_tri (p.natAbs : Int) d
    have t4 := cmpZ_tri (-p) (-d)
    have t5 := cmpZ_tri (-p) d
    have t6 := cmpZ_tri (-p) 0
    have t7 := cmpZ_tri (2 * -p) (-d)
    have t8 := cmpZ_tri (2 * -p) d
    generalize cmpZ p 0 = k0 at *
    generalize cmpZ n 0 = k1 at *
    generalize cmpZ (2 * (p.natAbs : Int)) d = k2 at *
    generalize cmpZ (p.natAbs : Int) d = k3 at *
    generalize cmpZ (-p) (-d) = k4 at *
    generalize cmpZ (-p) d = k5 at *
    generalize cmpZ (-p) 0 = k6 at *
    generalize cmpZ (2 * -p) (-d) = k7 at *
    generalize cmpZ (2 * -p) d = k8 at *
    subst e1; subst e2; subst e3; subst f1
    have hmm : m = 0 ∨ m = 1 ∨ m = 2 ∨ m = 3 ∨ m = 4 := by omega
    refine ⟨by omega, by omega, ?_⟩
    rcases hmm with rfl | rfl | rfl | rfl | rfl
    · exact .inl ⟨rfl, by have := f2 rfl; omega⟩
    · exact .inr (.inl ⟨rfl, by have := f3 rfl; omega⟩)
    · exact .inr (.inr (.inr ⟨.inl rfl, by have := f5 rfl; omega, by have := f5 rfl; omega⟩))
    · exact .inr (.inr (.inr ⟨.inr rfl, by have := f6 rfl; omega, by have := f6 rfl; omega⟩))
    · exact .inr (.inr (.inl ⟨rfl, by have := f4 rfl; omega⟩))
section
set_option maxRecDepth 100000
set_option maxHeartbeats 6400000
theorem rounds_walk (s c O X Q D : ByteArray) (m n g z l h : Int) (hs : s.size ≤ 900) (hk : RdK m g z l h) (w : World) (hv : VarM w)
    (H1 : ∀ W, VarM W → Calls Tryz.prog 11 #[.string s, .string c, .int .u8 m] W (UnR n 0 W))
    (H2 : ∀ W, VarM W → Calls Tryz.prog 12 #[.int .i64 1, .string c] W (StE O 0 W))
    (H3 : ∀ W, VarM W → Calls Tryz.prog 25 #[.string s, .string O] W (StE X 0 W))
    (H4 : ∀ W, VarM W → Calls Tryz.prog 27 #[.int .i64 n] W (StrR Q W))
    (H5 : ∀ W, VarM W → Calls Tryz.prog 26 #[.string X, .string Q] W (StE D 0 W))
    (H6 : ∀ W, VarM W → Calls Tryz.prog 28 #[.string X, .string ⟨#[48]⟩] W (CmE g 0 W))
    (H7 : ∀ W, VarM W → Calls Tryz.prog 28 #[.string D, .string ⟨#[48]⟩] W (CmE z 0 W))
    (H8 : ∀ W, VarM W → Calls Tryz.prog 28 #[.string D, .string ⟨#[45, 49]⟩] W (CmE 1 0 W))
    (H9 : ∀ W, VarM W → Calls Tryz.prog 28 #[.string D, .string ⟨#[49]⟩] W (CmE (-1) 0 W))
    (H10 : ∀ W, VarM W → Calls Tryz.prog 28 #[.string D, .string ⟨#[45, 49, 47, 50]⟩] W (CmE l 0 W))
    (H11 : ∀ W, VarM W → Calls Tryz.prog 28 #[.string D, .string ⟨#[49, 47, 50]⟩] W (CmE h 0 W)) :
    Calls Tryz.prog 8 #[.string s, .string c, .int .u8 m] w (BoM true w) := by
  have HV := Lib.hid hv
  have J0 := Lib.hid (alive7_any w hv)
  have J1 := Lib.hid H1
  have J2 := Lib.hid H2
  have J3 := Lib.hid H3
  have J4 := Lib.hid H4
  have J5 := Lib.hid H5
  have J6 := Lib.hid H6
  have J7 := Lib.hid H7
  have J8 := Lib.hid H8
  have J9 := Lib.hid H9
  have J10 := Lib.hid H10
  have J11 := Lib.hid H11
  have hsz : ¬ (900 : Int) < (s.size : Int) := by omega
  clear hv H1 H2 H3 H4 H5 H6 H7 H8 H9 H10 H11 hs
  rcases hk with ⟨rfl, rfl | ⟨rfl, rfl⟩ | ⟨rfl, rfl⟩⟩ | ⟨rfl, rfl | ⟨rfl, rfl⟩ | ⟨rfl, rfl⟩⟩ | ⟨rfl, hz⟩ | ⟨rfl | rfl, hl, hh⟩
  all_goals
    go_enter Tryz.func8, Tryz.ntmps8
    go_wp2_with (first
      | (go_at_call 17; ((with_reducible refine J0.out.mono ?_); rintro e w1 ⟨rfl, b⟩; have B0 := Lib.hid b; clear b))
      | (go_at_call 11; ((with_reducible refine (J1.out _ (HV.out.below B0.out)).mono ?_); rintro e w1 ⟨rfl, b⟩; have B1 := Lib.hid (btM B0.out b); clear b))
      | (go_at_call 12; ((with_reducible refine (J2.out _ (HV.out.below B1.out)).mono ?_); rintro e w2 ⟨rfl, b⟩; have B2 := Lib.hid (btM B1.out b); clear b))
      | (go_at_call 25; ((with_reducible refine (J3.out _ (HV.out.below B2.out)).mono ?_); rintro e w3 ⟨rfl, b⟩; have B3 := Lib.hid (btM B2.out b); clear b))
      | (go_at_call 27; ((with_reducible refine (J4.out _ (HV.out.below B3.out)).mono ?_); rintro e w4 ⟨rfl, b⟩; have B4 := Lib.hid (btM B3.out b); clear b))
      | (go_at_call 26; ((with_reducible refine (J5.out _ (HV.out.below B4.out)).mono ?_); rintro e w5 ⟨rfl, b⟩; have B5 := Lib.hid (btM B4.out b); clear b))
      | (go_at_call 28; ((with_reducible refine (J6.out _ (HV.out.below B5.out)).mono ?_); rintro e w6 ⟨rfl, b⟩; have B6 := Lib.hid (btM B5.out b); clear b))
      | (go_at_call 28; ((with_reducible refine (J7.out _ (HV.out.below B6.out)).mono ?_); rintro e w7 ⟨rfl, b⟩; have B7 := Lib.hid (btM B6.out b); clear b))
      | (go_at_call 28; ((with_reducible refine (J8.out _ (HV.out.below B7.out)).mono ?_); rintro e w8 ⟨rfl, b⟩; have B8 := Lib.hid (btM B7.out b); clear b))
      | (go_at_call 28; ((with_reducible refine (J9.out _ (HV.out.below B8.out)).mono ?_); rintro e w9 ⟨rfl, b⟩; have B9 := Lib.hid (btM B8.out b); clear b))
      | (go_at_call 28; ((with_reducible refine (J10.out _ (HV.out.below B9.out)).mono ?_); rintro e w10 ⟨rfl, b⟩; have B10 := Lib.hid (btM B9.out b); clear b))
      | (go_at_call 28; ((with_reducible refine (J11.out _ (HV.out.below B10.out)).mono ?_); rintro e w11 ⟨rfl, b⟩; have B11 := Lib.hid (btM B10.out b); clear b)))
    go_ret
    exact ⟨rfl, B11.out⟩
theorem rounds_bad (s c R : ByteArray) (m k er : Int) (_h0 : 0 ≤ m) (_h255 : m ≤ 255) (w : World) (hv : VarM w) (hb : 900 < s.size ∨ s.size ≤ 900 ∧ (er != 0) = true)
    (H1 : s.size ≤ 900 → ∀ W, VarM W → Calls Tryz.prog 11 #[.string s, .string c, .int .u8 m] W (UnR 0 er W))
    (H2 : ∀ W, VarM W → Calls Tryz.prog 12 #[.int .i64 1, .string c] W (StE R k W)) :
    Calls Tryz.prog 8 #[.string s, .string c, .int .u8 m] w (BoM true w) := by
  have HV := Lib.hid hv
  have J0 := Lib.hid (alive7_any w hv)
  have J2 := Lib.hid H2
  rcases hb with hb | ⟨hb, he⟩
  · have hsz : (900 : Int) < (s.size : Int) := by omega
    clear hv H1 H2 hb
    go_enter Tryz.func8, Tryz.ntmps8
    go_wp2_with (go_at_call 17; ((with_reducible refine J0.out.mono ?_); rintro e w1 ⟨rfl, b⟩; have B0 := Lib.hid b; clear b))
    go_ret
    exact ⟨rfl, B0.out⟩
  · have hsz : ¬ (900 : Int) < (s.size : Int) := by omega
    have J1 := Lib.hid (H1 hb)
    clear hv H1 H2 hb
    go_enter Tryz.func8, Tryz.ntmps8
    go_wp2_with (first
      | (go_at_call 17; ((with_reducible refine J0.out.mono ?_); rintro e w1 ⟨rfl, b⟩; have B0 := Lib.hid b; clear b))
      | (go_at_call 11; ((with_reducible refine (J1.out _ (HV.out.below B0.out)).mono ?_); rintro e w1 ⟨rfl, b⟩; have B1 := Lib.hid (btM B0.out b); clear b))
      | (go_at_call 12; ((with_reducible refine (J2.out _ (HV.out.below B1.out)).mono ?_); rintro e w2 ⟨rfl, b⟩; have B2 := Lib.hid (btM B1.out b); clear b)))
    go_ret
    exact ⟨rfl, B2.out⟩
end
theorem amB_one : amB 1 = true := by decide
theorem fu_one (c : List UInt8) (q : Rat) : q / fuQ 1 c = q * uq (unU c) ∧ (fuQ 1 c).num ≠ 0 ∧ QD 4 (fuQ 1 c) := by
  have h := fu_mul 1 c
  have hn : fuQ 1 c ≠ 0 := by
    intro e
    rw [e, Rat.zero_mul] at h
    exact absurd h (by decide)
  obtain ⟨t1, t2⟩ := ten_le c
  refine ⟨?_, fun e => hn (Rat.num_eq_zero.1 e), ?_⟩
  · have h2 : q / fuQ 1 c * (fuQ 1 c * uq (unU c)) = q * uq (unU c) := by rw [← Rat.mul_assoc, Rat.div_mul_cancel hn]
    rw [h] at h2
    rw [← h2]
    exact (Rat.mul_one _).symm
  · exact qd_divInt (by omega) (show Dg 4 1 by unfold Dg; decide) (show Dg 4 ((10 ^ unU c : Nat) : Int) by unfold Dg; omega)
theorem rounds_law (s c : ByteArray) (m : Int) (h0 : 0 ≤ m) (h255 : m ≤ 255) (w : World) (hv : VarM w) :
    Calls Tryz.prog 8 #[.string s, .string c, .int .u8 m] w (BoM true w) := by
  have H2 := fun W (hW : VarM W) => pfromunits_any 1 c W hW
  by_cases hs : s.size ≤ 900
  · have H1 := fun W (hW : VarM W) => ptounits_any s c (by omega) m h0 h255 W hW
    by_cases he : tuE s.data.toList c.data.toList m = 0
    · have hV : tuV s.data.toList c.data.toList m = tuN s.data.toList c.data.toList m := by unfold tuV; rw [if_pos he]
      rw [hV, he] at H1
      unfold tuE at he
      split at he
      · rename_i hc1
        obtain ⟨hn, h4⟩ := hc1
        split at he
        · rename_i hc
          split at he
          · have hb := (amE_zero _).1 he
            obtain ⟨q, rfl, hq⟩ := qd_of hc hs (by omega)
            unfold tuN at *
            rw [qv_rq] at *
            obtain ⟨e1, e2, e3⟩ := fu_one c.data.toList q
            have hy := hq.div e3 e2 
            have H3 := fun W (hW : VarM W) => rdiv_rq (hq.sml (by omega)) (e3.sml (by omega)) (divC_zero hq e3 e2 (by omega)) e1 _ _ _ rfl rfl rfl W hW.r
            rw [e1] at hy
            have hf := round_facts m.toNat (q * uq (unU c.data.toList)) (by omega)
            rw [show ((m.toNat : Nat) : Int) = m by omega] at hf
            generalize q * uq (unU c.data.toList) = y at *
            generalize rndQ m.toNat y = n at *
            have hn17 : QD 17 (n : Rat) := by
              have := (amB_iff n).1 hb
              refine ⟨?_, ?_⟩
              · rw [Rat.num_intCast]; unfold Dg; omega
              · rw [Rat.den_intCast]; unfold Dg; decide
            have ho := hy.sub hn17
            have H4 : ∀ W, VarM W → Calls Tryz.prog 27 #[.int .i64 n] W (StrR (rq (n : Rat)) W) := fun W hW => by
              rw [rq_int]
              have := (amB_iff n).1 hb
              exact rof_any _ (by omega) (by omega) W hW.v.t
            have H5 := fun W (hW : VarM W) => rsub_rq (hy.sml (by omega)) (hn17.sml (by omega)) (subC_zero hy hn17 (by omega)) rfl _ _ _ rfl rfl rfl W hW.r
            obtain ⟨f1, f2, f3⟩ := hf
            have HT : fuT 1 c.data.toList = rq (fuQ 1 c.data.toList) := by unfold fuT; rw [hn, amB_one]; rfl
            have HE : fuE 1 c.data.toList = 0 := by unfold fuE; rw [hn, amB_one]; rfl
            rw [HT, HE] at H2
            exact rounds_walk _ c _ _ _ _ m n _ _ _ _ hs f3 w hv H1 H2 H3 H4 H5
              (fun W hW => c_rat hy qd_zero (by omega) rfl _ _ rfl rq_zero W hW.r)
              (fun W hW => c_rat ho qd_zero (by omega) rfl _ _ rfl rq_zero W hW.r)
              (fun W hW => c_rat ho qd_neg1 (by omega) f1 _ _ rfl neg1_text W hW.r)
              (fun W hW => c_rat ho qd_one (by omega) f2 _ _ rfl rq_one W hW.r)
              (fun W hW => c_rat ho qd_nhlf (by omega) rfl _ _ rfl nhlf_text W hW.r)
              (fun W hW => c_rat ho qd_hlf (by omega) rfl _ _ rfl hlf_text W hW.r)
          · cases he
        · cases he
      · cases he
    · have hV : tuV s.data.toList c.data.toList m = 0 := by unfold tuV; rw [if_neg he]
      rw [hV] at H1
      exact rounds_bad s c _ m _ _ h0 h255 w hv (.inr ⟨hs, by rw [bne_iff_ne]; exact he⟩) (fun _ => H1) H2
  · exact rounds_bad s c _ m _ 0 h0 h255 w hv (.inl (by omega)) (fun h => absurd h hs) H2
end Go.Proofs.YtalnfbgaiegicaaGreatDoor

/- Layer 7: the program's walks: Show and Read. -/
import Derived.Test.YtalnfbgaiegicaaGreatDoorMoL
namespace Go.Proofs.YtalnfbgaiegicaaGreatDoor
open Go Go.RowKit

theorem cut32 (l : List UInt8) : (Lib.cut l [32]).1 = tk32 l ∧ (Lib.cut l [32]).2.1 = (dr32 l).tail := by
  have key : (Lib.index l [32] = -1 ∧ tk32 l = l ∧ dr32 l = []) ∨ ∃ i : Nat, Lib.index l [32] = i ∧ tk32 l = l.take i ∧ (dr32 l).tail = l.drop (i + 1) := by
    induction l with
    | nil => exact .inl ⟨rfl, rfl, rfl⟩
    | cons c r ih =>
      unfold Lib.index tk32 dr32
      by_cases hc : c = 32
      · subst hc
        right
        exact ⟨0, by simp, by simp, by simp⟩
      · have hp : List.isPrefixOf [32] (c :: r) = false := by simp [List.isPrefixOf]; exact fun h => hc h.symm
        rw [hp, if_neg hc, if_neg hc, if_neg (by decide)]
        rcases ih with ⟨i1, i2, i3⟩ | ⟨i, i1, i2, i3⟩
        · left
          rw [i1, i2, i3]
          exact ⟨rfl, rfl, rfl⟩
        · right
          refine ⟨i + 1, ?_, ?_, ?_⟩
          · rw [i1]
            have : ((i : Int) == -1) = false := by rw [beq_eq_false_iff_ne]; omega
            rw [this]; simp
          · rw [i2]; simp
          · rw [i3]; simp
  unfold Lib.cut
  rcases key with ⟨h1, h2, h3⟩ | ⟨i, h1, h2, h3⟩
  · rw [h1, if_neg (by decide), h2, h3]; exact ⟨rfl, rfl⟩
  · rw [h1, if_pos (by omega), h2, h3]; exact ⟨by simp, by simp⟩
theorem rdE7_eq (l : List UInt8) : rdE7 l = if nameB (dr32 l).tail && okT (unU (dr32 l).tail) (tk32 l) then amE (sgn (ngB (tk32 l)) (frmN (unU (dr32 l).tail) (bod (tk32 l)))) else 12 := by
  have ha : ∀ (g : Bool) (m : Nat), amE (sgn g m) = if 1125899906842624 < m then 14 else 0 := fun g m => by
    unfold amE
    by_cases h : 1125899906842624 < m
    · rw [if_pos h, if_neg]
      intro e
      have := (amB_iff _).1 e
      unfold sgn at this
      split at this <;> omega
    · rw [if_neg h, if_pos]
      refine (amB_iff _).2 ?_
      unfold sgn
      split <;> omega
  rw [ha, okT_iff]
  unfold rdE7
  rcases dr_head l with h | ⟨r, h⟩
  · rw [h]
    rfl
  · rw [h]
    simp only [List.tail_cons, Bool.and_assoc]
    rfl
section
set_option maxRecDepth 100000
set_option maxHeartbeats 1600000
theorem pshow_bad (c : ByteArray) (n uv ue : Int) (w : World) (hb : ue = 2 ∨ ue = 0 ∧ amB n = false)
    (H1 : Calls Tryz.prog 10 #[.string c] w (UnR uv ue w)) :
    Calls Tryz.prog 21 #[.int .i64 n, .string c] w (StE ⟨#[]⟩ 2 w) := by
  have J1 := Lib.hid H1
  clear H1
  rcases hb with rfl | ⟨rfl, hm⟩
  · go_enter Tryz.func21, Tryz.ntmps21
    go_wp2_with (go_at_call 10; ((with_reducible refine J1.out.mono ?_); rintro e w1 ⟨rfl, b⟩; have B1 := Lib.hid b; clear b))
    go_ret2
    exact ⟨rfl, B1.out⟩
  · have J2 := Lib.hid (fun W => pamount_any n false hm W)
    clear hm
    go_enter Tryz.func21, Tryz.ntmps21
    go_wp2_with (first
      | (go_at_call 10; ((with_reducible refine J1.out.mono ?_); rintro e w1 ⟨rfl, b⟩; have B1 := Lib.hid b; clear b))
      | (go_at_call 36; ((with_reducible refine (J2.out _).mono ?_); rintro e w2 ⟨rfl, rfl⟩)))
    go_ret2
    exact ⟨rfl, B1.out⟩
theorem pshow_ok (c O P T : ByteArray) (n uv : Int) (w : World) (hv : VarM w) (hm : amB n = true) (hP : P.size ≤ 2147483648) (hc : c.size ≤ 40) (hT : T = P ++ ⟨#[32]⟩ ++ c)
    (H1 : Calls Tryz.prog 10 #[.string c] w (UnR uv 0 w))
    (H3 : ∀ W, VarM W → Calls Tryz.prog 50 #[.int .i64 n] W (StrR O W))
    (H4 : ∀ W, Calls Tryz.prog 49 #[.string O, .int .i64 uv] W (StrR P W)) :
    Calls Tryz.prog 21 #[.int .i64 n, .string c] w (StE T 0 w) := by
  have HV := Lib.hid hv
  have J1 := Lib.hid H1
  have J2 := Lib.hid (fun W => pamount_any n true hm W)
  have J3 := Lib.hid H3
  have J4 := Lib.hid H4
  have s1 : ¬ 9223372036854775807 < P.size + (⟨#[32]⟩ : ByteArray).size := by show ¬ 9223372036854775807 < P.size + 1; omega
  have s2 : ¬ 9223372036854775807 < (P ++ ⟨#[32]⟩).size + c.size := by rw [ByteArray.size_append]; show ¬ 9223372036854775807 < P.size + 1 + c.size; omega
  have s3 : ¬ 9223372036854775807 < P.size + 1 + c.size := by omega
  have s4 : ¬ 9223372036854775807 < P.size + 1 := by omega
  subst hT
  clear hm hv H1 H3 H4 hP hc
  go_enter Tryz.func21, Tryz.ntmps21
  go_wp2_with (first
    | (go_at_call 10; ((with_reducible refine J1.out.mono ?_); rintro e w1 ⟨rfl, b⟩; have B1 := Lib.hid b; clear b))
    | (go_at_call 36; ((with_reducible refine (J2.out _).mono ?_); rintro e w2 ⟨rfl, rfl⟩))
    | (go_at_call 50; ((with_reducible refine (J3.out _ (HV.out.below B1.out)).mono ?_); rintro e w3 ⟨rfl, b⟩; have B3 := Lib.hid (btM B1.out b); clear b))
    | (go_at_call 49; ((with_reducible refine (J4.out _).mono ?_); rintro e w4 ⟨rfl, b⟩; have B4 := Lib.hid (btM B3.out b); clear b)))
  go_ret2
  exact ⟨rfl, B4.out⟩
end
theorem pshow_any (n : Int) (c : ByteArray) (w : World) (hv : VarM w) :
    Calls Tryz.prog 21 #[.int .i64 n, .string c] w (StE ⟨(shV n c.data.toList).toArray⟩ (shE n c.data.toList) w) := by
  have hU := punit_any c w
  unfold shV shE
  cases hn : nameB c.data.toList
  · rw [Bool.false_and, if_neg (by decide), if_neg (by decide)]
    unfold unE at hU
    rw [if_neg (by rw [hn]; decide)] at hU
    exact pshow_bad c n _ _ w (.inl rfl) hU
  unfold unE unV at hU
  rw [if_pos hn, if_pos hn] at hU
  cases hm : amB n
  · rw [Bool.and_false, if_neg (by decide), if_neg (by decide)]
    exact pshow_bad c n _ _ w (.inr ⟨rfl, hm⟩) hU
  · rw [Bool.and_true, if_pos rfl, if_pos rfl]
    have h1 := (amB_iff n).1 hm
    obtain ⟨l1, -, -⟩ := fu_lim hm c.data.toList
    have hlen := rep_len l1
    have hlen2 : (rep n).size ≤ 1048576 := by
      have := len_of_chk (chk_of_abs l1)
      show (Lib.itoa n).length ≤ _
      omega
    have hu3 : unU c.data.toList ≤ 3 := by rcases unU_cases c.data.toList with h | h | h <;> omega
    have H4 := fun W => ppointed_any (rep n) (unU c.data.toList) hu3 hlen2 W
    rw [rep_data, ptL_itoa] at H4
    refine pshow_ok c (rep n) _ _ n _ w hv hm ?_ ((name_iff c).1 hn).1.2 ?_ hU (fun W hW => of_anyT n (by omega) (by omega) W hW.v.t) H4
    · show (shN (unU c.data.toList) n).length ≤ _
      have e := ptL_itoa (unU c.data.toList) n
      rw [← e]
      unfold ptL ptM
      have hb := bod_length (Lib.itoa n)
      have hp := padM_len (unU c.data.toList) (bod (Lib.itoa n))
      have hlen3 : (Lib.itoa n).length ≤ 1048576 := hlen2
      have e1 : ((if ngB (Lib.itoa n) then [45] else [] : List UInt8)).length ≤ 1 := by split <;> simp
      have e2 : ((if unU c.data.toList = 0 then [] else 46 :: (padM (unU c.data.toList) (bod (Lib.itoa n))).drop ((padM (unU c.data.toList) (bod (Lib.itoa n))).length - unU c.data.toList) : List UInt8)).length ≤ 1 + (padM (unU c.data.toList) (bod (Lib.itoa n))).length := by
        split
        · simp
        · simp only [List.length_cons, List.length_drop]; omega
      simp only [List.length_append, List.length_take]
      omega
    · symm
      refine ba_eq ?_
      rw [ba_app, ba_app]
      unfold shL
      rw [List.append_assoc]
      rfl
def RdR (n : Int) (c : ByteArray) (e : Int) (w : World) (x : Ending) (w' : World) : Prop := x = .returned (.tuple #[.int .i64 n, .string c, .int .i64 e]) ∧ Below w.heap.size w w'
section
set_option maxRecDepth 100000
set_option maxHeartbeats 1600000
theorem pread_unit (s b c : ByteArray) (f : Bool) (uv : Int) (w : World) (hv : VarM w)
    (H0 : ∀ W, VarM W → Calls Tryz.prog 52 #[.string s, .string ⟨#[32]⟩] W (CutR b c f W))
    (H1 : ∀ W, Calls Tryz.prog 10 #[.string c] W (UnR uv 2 W)) :
    Calls Tryz.prog 23 #[.string s] w (RdR 0 ⟨#[]⟩ 12 w) := by
  have HV := Lib.hid hv
  have J0 := Lib.hid H0
  have J1 := Lib.hid H1
  clear hv H0 H1
  go_enter Tryz.func23, Tryz.ntmps23
  go_wp2_with (first
    | (go_at_call 52; ((with_reducible refine (J0.out _ HV.out).mono ?_); rintro e w0 ⟨rfl, k, rfl⟩; have B0 := Lib.hid (dnM (Below.refl w.heap.size w) k)))
    | (go_at_call 10; ((with_reducible refine (J1.out _).mono ?_); rintro e w1 ⟨rfl, b1⟩; have B1 := Lib.hid (btM B0.out b1); clear b1)))
  go_ret3
  exact ⟨rfl, B1.out⟩
theorem pread_form (s b c O P : ByteArray) (f : Bool) (uv k : Int) (w : World) (hv : VarM w) (hb : k = 12 ∨ ((k == 12) = false ∧ (P.toList == b.toList) = false))
    (H0 : ∀ W, VarM W → Calls Tryz.prog 52 #[.string s, .string ⟨#[32]⟩] W (CutR b c f W))
    (H1 : ∀ W, Calls Tryz.prog 10 #[.string c] W (UnR uv 0 W))
    (H2 : ∀ W, VarM W → Calls Tryz.prog 53 #[.string b] W (StrR O W))
    (H3 : ∀ W, Calls Tryz.prog 54 #[.string O] W (IntR k W))
    (H4 : ∀ W, Calls Tryz.prog 49 #[.string O, .int .i64 uv] W (StrR P W)) :
    Calls Tryz.prog 23 #[.string s] w (RdR 0 ⟨#[]⟩ 12 w) := by
  have HV := Lib.hid hv
  have J0 := Lib.hid H0
  have J1 := Lib.hid H1
  have J2 := Lib.hid H2
  have J3 := Lib.hid H3
  have J4 := Lib.hid H4
  clear hv H0 H1 H2 H3 H4
  rcases hb with rfl | ⟨hk, hp⟩
  · go_enter Tryz.func23, Tryz.ntmps23
    go_wp2_with (first
      | (go_at_call 52; ((with_reducible refine (J0.out _ HV.out).mono ?_); rintro e w0 ⟨rfl, k, rfl⟩; have B0 := Lib.hid (dnM (Below.refl w.heap.size w) k)))
      | (go_at_call 10; ((with_reducible refine (J1.out _).mono ?_); rintro e w1 ⟨rfl, b1⟩; have B1 := Lib.hid (btM B0.out b1); clear b1))
      | (go_at_call 53; ((with_reducible refine (J2.out _ (HV.out.below B1.out)).mono ?_); rintro e w2 ⟨rfl, b2⟩; have B2 := Lib.hid (btM B1.out b2); clear b2))
      | (go_at_call 54; ((with_reducible refine (J3.out _).mono ?_); rintro e w3 ⟨rfl, rfl⟩)))
    go_ret3
    exact ⟨rfl, B2.out⟩
  · have hp2 : (P.toList != b.toList) = true := by rw [bne, hp]; rfl
    go_enter Tryz.func23, Tryz.ntmps23
    go_wp2_with (first
      | (go_at_call 52; ((with_reducible refine (J0.out _ HV.out).mono ?_); rintro e w0 ⟨rfl, k, rfl⟩; have B0 := Lib.hid (dnM (Below.refl w.heap.size w) k)))
      | (go_at_call 10; ((with_reducible refine (J1.out _).mono ?_); rintro e w1 ⟨rfl, b1⟩; have B1 := Lib.hid (btM B0.out b1); clear b1))
      | (go_at_call 53; ((with_reducible refine (J2.out _ (HV.out.below B1.out)).mono ?_); rintro e w2 ⟨rfl, b2⟩; have B2 := Lib.hid (btM B1.out b2); clear b2))
      | (go_at_call 54; ((with_reducible refine (J3.out _).mono ?_); rintro e w3 ⟨rfl, rfl⟩))
      | (go_at_call 49; ((with_reducible refine (J4.out _).mono ?_); rintro e w4 ⟨rfl, b4⟩; have B4 := Lib.hid (btM B2.out b4); clear b4)))
    go_ret3
    exact ⟨rfl, B4.out⟩
theorem pread_ok (s b c O : ByteArray) (f : Bool) (uv k n ae : Int) (C : ByteArray) (N : Int) (w : World) (hv : VarM w) (hk : (k == 12) = false) (ha : (ae = 14 ∧ C = ⟨#[]⟩ ∧ N = 0) ∨ (ae = 0 ∧ C = c ∧ N = n))
    (H0 : ∀ W, VarM W → Calls Tryz.prog 52 #[.string s, .string ⟨#[32]⟩] W (CutR b c f W))
    (H1 : ∀ W, Calls Tryz.prog 10 #[.string c] W (UnR uv 0 W))
    (H2 : ∀ W, VarM W → Calls Tryz.prog 53 #[.string b] W (StrR O W))
    (H3 : ∀ W, Calls Tryz.prog 54 #[.string O] W (IntR k W))
    (H4 : ∀ W, Calls Tryz.prog 49 #[.string O, .int .i64 uv] W (StrR b W))
    (H5 : ∀ W, VarM W → Calls Tryz.prog 35 #[.string O] W (UnR n ae W)) :
    Calls Tryz.prog 23 #[.string s] w (RdR N C ae w) := by
  have HV := Lib.hid hv
  have J0 := Lib.hid H0
  have J1 := Lib.hid H1
  have J2 := Lib.hid H2
  have J3 := Lib.hid H3
  have J4 := Lib.hid H4
  have J5 := Lib.hid H5
  have hp : (b.toList == b.toList) = true := by simp
  have hp2 : (b.toList != b.toList) = false := by simp
  clear hv H0 H1 H2 H3 H4 H5
  rcases ha with ⟨rfl, rfl, rfl⟩ | ⟨rfl, hC, hN⟩
  · go_enter Tryz.func23, Tryz.ntmps23
    go_wp2_with (first
      | (go_at_call 52; ((with_reducible refine (J0.out _ HV.out).mono ?_); rintro e w0 ⟨rfl, k, rfl⟩; have B0 := Lib.hid (dnM (Below.refl w.heap.size w) k)))
      | (go_at_call 10; ((with_reducible refine (J1.out _).mono ?_); rintro e w1 ⟨rfl, b1⟩; have B1 := Lib.hid (btM B0.out b1); clear b1))
      | (go_at_call 53; ((with_reducible refine (J2.out _ (HV.out.below B1.out)).mono ?_); rintro e w2 ⟨rfl, b2⟩; have B2 := Lib.hid (btM B1.out b2); clear b2))
      | (go_at_call 54; ((with_reducible refine (J3.out _).mono ?_); rintro e w3 ⟨rfl, rfl⟩))
      | (go_at_call 49; ((with_reducible refine (J4.out _).mono ?_); rintro e w4 ⟨rfl, b4⟩; have B4 := Lib.hid (btM B2.out b4); clear b4))
      | (go_at_call 35; ((with_reducible refine (J5.out _ (HV.out.below B4.out)).mono ?_); rintro e w5 ⟨rfl, b5⟩; have B5 := Lib.hid (btM B4.out b5); clear b5)))
    go_ret3
    exact ⟨rfl, B5.out⟩
  · rw [hC, hN]
    clear hC hN
    go_enter Tryz.func23, Tryz.ntmps23
    go_wp2_with (first
      | (go_at_call 52; ((with_reducible refine (J0.out _ HV.out).mono ?_); rintro e w0 ⟨rfl, k, rfl⟩; have B0 := Lib.hid (dnM (Below.refl w.heap.size w) k)))
      | (go_at_call 10; ((with_reducible refine (J1.out _).mono ?_); rintro e w1 ⟨rfl, b1⟩; have B1 := Lib.hid (btM B0.out b1); clear b1))
      | (go_at_call 53; ((with_reducible refine (J2.out _ (HV.out.below B1.out)).mono ?_); rintro e w2 ⟨rfl, b2⟩; have B2 := Lib.hid (btM B1.out b2); clear b2))
      | (go_at_call 54; ((with_reducible refine (J3.out _).mono ?_); rintro e w3 ⟨rfl, rfl⟩))
      | (go_at_call 49; ((with_reducible refine (J4.out _).mono ?_); rintro e w4 ⟨rfl, b4⟩; have B4 := Lib.hid (btM B2.out b4); clear b4))
      | (go_at_call 35; ((with_reducible refine (J5.out _ (HV.out.below B4.out)).mono ?_); rintro e w5 ⟨rfl, b5⟩; have B5 := Lib.hid (btM B4.out b5); clear b5)))
    go_ret3
    exact ⟨rfl, B5.out⟩
end
theorem tk_len (l : List UInt8) : (tk32 l).length ≤ l.length := by
  have := tk_dr l
  have h : (tk32 l ++ dr32 l).length = l.length := by rw [this]
  rw [List.length_append] at h
  omega
theorem unp_len (l : List UInt8) : (unpL l).length ≤ l.length + 1 := by
  have := stp_len l
  unfold unpL
  split
  · simp
  · split
    · simp; omega
    · omega
theorem pread_any (s : ByteArray) (hs : s.size ≤ 1048575) (w : World) (hv : VarM w) :
    Calls Tryz.prog 23 #[.string s] w (RdR (rdN7 s.data.toList) ⟨(rdC7 s.data.toList).toArray⟩ (rdE7 s.data.toList) w) := by
  have hl : s.data.toList.length = s.size := by simp
  obtain ⟨c1, c2⟩ := cut32 s.data.toList
  have ht := tk_len s.data.toList
  have hE := rdE7_eq s.data.toList
  have hN : rdN7 s.data.toList = if rdE7 s.data.toList = 0 then sgn (ngB (tk32 s.data.toList)) (frmN (unU (dr32 s.data.toList).tail) (bod (tk32 s.data.toList))) else 0 := rfl
  have hC : rdC7 s.data.toList = if rdE7 s.data.toList = 0 then (dr32 s.data.toList).tail else [] := rfl
  have H0 : ∀ W, VarM W → Calls Tryz.prog 52 #[.string s, .string ⟨#[32]⟩] W (CutR ⟨(tk32 s.data.toList).toArray⟩ ⟨((dr32 s.data.toList).tail).toArray⟩ (Lib.cut s.data.toList [32]).2.2 W) := fun W hW => by
    obtain ⟨m, hm⟩ := hW.ml
    have := Tryz.strings_Cut s ⟨#[32]⟩ m W (by omega) hm
    rw [show (⟨#[32]⟩ : ByteArray).data.toList = [32] from rfl, c1, c2] at this
    exact this
  generalize (Lib.cut s.data.toList [32]).2.2 = f at H0
  generalize hb : tk32 s.data.toList = b at *
  generalize hc : (dr32 s.data.toList).tail = c at *
  have H1 : ∀ W, Calls Tryz.prog 10 #[.string ⟨c.toArray⟩] W (UnR (unV c) (unE c) W) := fun W => punit_any ⟨c.toArray⟩ W
  cases hn : nameB c
  · rw [hn, Bool.false_and, if_neg (by decide)] at hE
    rw [hN, hC, hE, if_neg (by decide), if_neg (by decide)]
    unfold unE at H1
    rw [if_neg (by rw [hn]; decide)] at H1
    exact pread_unit s _ _ f _ w hv H0 H1
  · rw [hn, Bool.true_and] at hE
    unfold unE unV at H1
    rw [if_pos hn, if_pos hn] at H1
    have hu3 : unU c ≤ 3 := by rcases unU_cases c with h | h | h <;> omega
    have hul := unp_len b
    have H2 : ∀ W, VarM W → Calls Tryz.prog 53 #[.string ⟨b.toArray⟩] W (StrR ⟨(unpL b).toArray⟩ W) := fun W hW => punpointed_any ⟨b.toArray⟩ (by show b.length ≤ _; omega) W hW
    have H3 : ∀ W, Calls Tryz.prog 54 #[.string ⟨(unpL b).toArray⟩] W (IntR (chk (unpL b)) W) := fun W => check_any ⟨(unpL b).toArray⟩ W (by show (unpL b).length ≤ maxLen; unfold maxLen; omega)
    have H4 : ∀ W, Calls Tryz.prog 49 #[.string ⟨(unpL b).toArray⟩, .int .i64 (unU c)] W (StrR ⟨(ptL (unU c) (unpL b)).toArray⟩ W) := fun W => ppointed_any ⟨(unpL b).toArray⟩ (unU c) hu3 (by show (unpL b).length ≤ _; omega) W
    cases ho : okT (unU c) b
    · rw [ho, if_neg (by decide)] at hE
      rw [hN, hC, hE, if_neg (by decide), if_neg (by decide)]
      refine pread_form s _ _ _ _ f _ (chk (unpL b)) w hv ?_ H0 H1 H2 H3 H4
      unfold okT at ho
      by_cases h12 : chk (unpL b) = 12
      · exact .inl h12
      · right
        rw [decide_eq_false h12, Bool.not_false, Bool.true_and] at ho
        refine ⟨by rw [beq_eq_false_iff_ne]; exact h12, ?_⟩
        rw [Lib.toList_data, Lib.toList_data]
        exact ho
    · rw [ho, if_pos rfl] at hE
      have hnum := okT_num ho
      have h12 : ¬ chk (unpL b) = 12 := by
        intro e
        unfold okT at ho
        rw [decide_eq_true e] at ho
        cases ho
      have hpt : ptL (unU c) (unpL b) = b := by
        unfold okT at ho
        rw [decide_eq_false h12, Bool.not_false, Bool.true_and, beq_iff_eq] at ho
        exact ho
      rw [hpt] at H4
      generalize sgn (ngB b) (frmN (unU c) (bod b)) = z at *
      have H5 : ∀ W, VarM W → Calls Tryz.prog 35 #[.string ⟨(unpL b).toArray⟩] W (UnR (amV z) (amE z) W) := fun W hW => amountOf_any z ⟨(unpL b).toArray⟩ hnum (by show (unpL b).length ≤ _; omega) W hW
      rw [hN, hC, hE]
      refine pread_ok s _ _ _ f _ (chk (unpL b)) (amV z) (amE z) _ _ w hv (by rw [beq_eq_false_iff_ne]; exact h12) ?_ H0 H1 H2 H3 H4 H5
      unfold amE amV
      cases amB z
      · exact .inl ⟨rfl, rfl, rfl⟩
      · exact .inr ⟨rfl, rfl, rfl⟩
end Go.Proofs.YtalnfbgaiegicaaGreatDoor

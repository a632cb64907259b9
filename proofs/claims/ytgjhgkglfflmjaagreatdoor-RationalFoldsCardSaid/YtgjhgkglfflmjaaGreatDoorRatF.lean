/- The walks of layer 2: parse as a whole; Parts. -/
import Derived.Test.YtgjhgkglfflmjaaGreatDoorRatE
namespace Go.Proofs.YtgjhgkglfflmjaaGreatDoor
open Go Go.RowKit

theorem chkR_eq {l : List UInt8} {x y : Int} {h o : Bool} {g : Nat} (hx : chk (nB l) = x) (hy : chk (dB l) = y) (hh : hB l = h) (ho : okD (dB l) = o) (hg : Nat.gcd (num (nB l)).natAbs (num (dB l)).natAbs = g) :
    chkR l = if x = 12 ∨ y = 12 ∨ (h = true ∧ o = false) then 12 else if ¬ x = 0 ∨ ¬ y = 0 then 14 else if h = true ∧ ¬ g = 1 then 12 else 0 := by
  subst hx; subst hy; subst hh; subst ho; subst hg; rfl
theorem parS_err {l : List UInt8} {c : Int} (h : chkR l = c) (hc : ¬ c = 0) : (⟨(parS l).1.toArray⟩ : ByteArray) = ⟨#[]⟩ ∧ (⟨(parS l).2.toArray⟩ : ByteArray) = ⟨#[]⟩ := by
  unfold parS; rw [if_neg (by rw [h]; exact hc)]; exact ⟨rfl, rfl⟩
theorem parS_ok {l : List UInt8} (h : chkR l = 0) : (⟨(parS l).1.toArray⟩ : ByteArray) = ⟨(nB l).toArray⟩ ∧ (⟨(parS l).2.toArray⟩ : ByteArray) = ⟨(dB l).toArray⟩ := by
  unfold parS; rw [if_pos h]; exact ⟨rfl, rfl⟩
theorem gcd_text {l m : List UInt8} (hl : chk l = 0) (hm : chk m = 0) : (gcS l m).1 = Lib.itoa ((Nat.gcd (num l).natAbs (num m).natAbs : Nat) : Int) := by
  rw [gcS_ok (by unfold bothE; rw [if_pos hl]; exact hm)]
theorem itoa_is_one (g : Nat) : ((⟨(Lib.itoa (g : Int)).toArray⟩ : ByteArray).toList == [49]) = decide (g = 1) := by
  rw [Lib.toList_data, Bool.eq_iff_iff, beq_iff_eq, decide_eq_true_iff]
  constructor
  · intro h
    have h2 : Lib.itoa (g : Int) = Lib.itoa 1 := h.trans (by decide +kernel)
    have := itoa_inj h2
    omega
  · rintro rfl; show Lib.itoa 1 = [49]; decide +kernel

set_option maxHeartbeats 800000 in
theorem parse_rat (s : ByteArray) (hs : s.size ≤ 1048576) (w : World) (hv : VarR w) :
    Calls Tryz.prog 38 #[.string s] w (PrsR ⟨(parS s.data.toList).1.toArray⟩ ⟨(parS s.data.toList).2.toArray⟩ (chkR s.data.toList) w) := by
  obtain ⟨c1, c2, c3, c4⟩ := cut_parts s.data.toList
  have hl1 := nB_len s.data.toList
  have hl2 := dB_len s.data.toList
  rw [← Lib.size_eq] at hl1 hl2
  have HC : ∀ W, VarR W → Calls Tryz.prog 73 #[.string s, .string ⟨#[47]⟩] W (CutR ⟨(nB s.data.toList).toArray⟩ ⟨(Lib.cut s.data.toList [47]).2.1.toArray⟩ (hB s.data.toList) W) := fun W hW => by
    obtain ⟨m, hm⟩ := hW.ml
    have := Tryz.strings_Cut s ⟨#[47]⟩ m W (by omega) hm
    rw [show (⟨#[47]⟩ : ByteArray).data.toList = [47] from rfl, c1, c2] at this
    exact this
  have HX : ∀ W, Calls Tryz.prog 36 #[.string ⟨(nB s.data.toList).toArray⟩] W (IntR (chk (nB s.data.toList)) W) := fun W => check_any ⟨(nB s.data.toList).toArray⟩ W (by show (nB s.data.toList).length ≤ maxLen; unfold maxLen; omega)
  have HY : ∀ W, Calls Tryz.prog 36 #[.string ⟨(dB s.data.toList).toArray⟩] W (IntR (chk (dB s.data.toList)) W) := fun W => check_any ⟨(dB s.data.toList).toArray⟩ W (by show (dB s.data.toList).length ≤ maxLen; unfold maxLen; omega)
  have HO : ∀ W, Calls Tryz.prog 74 #[.string ⟨(dB s.data.toList).toArray⟩] W (BooR (okD (dB s.data.toList)) W) := fun W => aboveOne_any ⟨(dB s.data.toList).toArray⟩ _ rfl W
  have HG : chk (nB s.data.toList) = 0 → chk (dB s.data.toList) = 0 → ∀ W, VarT W → Calls Tryz.prog 75 #[.string ⟨(nB s.data.toList).toArray⟩, .string ⟨(dB s.data.toList).toArray⟩] W
      (StrR ⟨(Lib.itoa ((Nat.gcd (num (nB s.data.toList)).natAbs (num (dB s.data.toList)).natAbs : Nat) : Int)).toArray⟩ W) := fun hx hy W hW => by
    have := divisor_any ⟨(nB s.data.toList).toArray⟩ ⟨(dB s.data.toList).toArray⟩ (by show (nB s.data.toList).length ≤ maxLen; unfold maxLen; omega) (by show (dB s.data.toList).length ≤ maxLen; unfold maxLen; omega) _ rfl W hW
    rw [show (⟨(nB s.data.toList).toArray⟩ : ByteArray).data.toList = nB s.data.toList from rfl, show (⟨(dB s.data.toList).toArray⟩ : ByteArray).data.toList = dB s.data.toList from rfl, gcd_text hx hy] at this
    exact this
  have hgt := itoa_is_one (Nat.gcd (num (nB s.data.toList)).natAbs (num (dB s.data.toList)).natAbs)
  have HP := fun c (h : chkR s.data.toList = c) (hc : ¬ c = 0) => parS_err h hc
  have HQ := parS_ok (l := s.data.toList)
  have HE := @chkR_eq s.data.toList
  cases hh : hB s.data.toList
  · have hd := dB_plain hh
    rw [hh] at HC
    have hdl : (⟨(dB s.data.toList).toArray⟩ : ByteArray) = ⟨#[49]⟩ := by rw [hd]
    have hy : chk (dB s.data.toList) = 0 := by rw [hd]; exact chk_one
    rw [hdl, hy] at HY
    rcases chk_cases (nB s.data.toList) with hx | hx | hx
    · rw [hx] at HX
      have e := HE hx hy hh rfl rfl
      simp at e
      obtain ⟨p1, p2⟩ := HQ e
      rw [e, p1, p2, hdl]
      exact pF0 s _ _ w hv HC HX HY
    · rw [hx] at HX
      have e := HE hx hy hh rfl rfl
      simp at e
      obtain ⟨p1, p2⟩ := HP _ e (by decide)
      rw [e, p1, p2]
      exact pF12 s _ _ w hv HC HX HY
    · rw [hx] at HX
      have e := HE hx hy hh rfl rfl
      simp at e
      obtain ⟨p1, p2⟩ := HP _ e (by decide)
      rw [e, p1, p2]
      exact pF14 s _ _ w hv HC HX HY
  · rw [hh, c3 hh] at HC
    rcases chk_cases (nB s.data.toList) with hx | hx | hx <;> rcases chk_cases (dB s.data.toList) with hy | hy | hy <;> cases ho : okD (dB s.data.toList)
    all_goals
      rw [hx] at HX
      rw [hy] at HY
      rw [ho] at HO
    · have e := HE hx hy hh ho rfl
      simp at e
      obtain ⟨p1, p2⟩ := HP _ e (by decide)
      rw [e, p1, p2]
      exact pT0_0_n s _ _ w hv HC HX HY HO
    · by_cases hg : Nat.gcd (num (nB s.data.toList)).natAbs (num (dB s.data.toList)).natAbs = 1
      · have e := HE hx hy hh ho hg
        simp at e
        obtain ⟨p1, p2⟩ := HQ e
        rw [e, p1, p2]
        exact pT0_0_g s _ _ _ w hv HC HX HY HO (HG hx hy) (by rw [hgt]; exact decide_eq_true hg)
      · have e := HE hx hy hh ho rfl
        simp [hg] at e
        obtain ⟨p1, p2⟩ := HP _ e (by decide)
        rw [e, p1, p2]
        exact pT0_0_h s _ _ _ w hv HC HX HY HO (HG hx hy) (by rw [hgt]; exact decide_eq_false hg)
    all_goals
      have e := HE hx hy hh ho rfl
      simp at e
      obtain ⟨p1, p2⟩ := HP _ e (by decide)
      rw [e, p1, p2]
      first
        | exact pT0_12 s _ _ w hv HC HX HY
        | exact pT0_14_n s _ _ w hv HC HX HY HO
        | exact pT0_14_o s _ _ w hv HC HX HY HO
        | exact pT12_0 s _ _ w hv HC HX HY
        | exact pT12_12 s _ _ w hv HC HX HY
        | exact pT12_14 s _ _ w hv HC HX HY
        | exact pT14_0_n s _ _ w hv HC HX HY HO
        | exact pT14_0_o s _ _ w hv HC HX HY HO
        | exact pT14_12 s _ _ w hv HC HX HY
        | exact pT14_14_n s _ _ w hv HC HX HY HO
        | exact pT14_14_o s _ _ w hv HC HX HY HO
end Go.Proofs.YtgjhgkglfflmjaaGreatDoor

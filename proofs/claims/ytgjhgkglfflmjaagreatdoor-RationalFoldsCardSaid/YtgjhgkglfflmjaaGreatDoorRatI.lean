/- The walks of the reference of layer 2: Check as a whole, Great, Four. -/
import Derived.Test.YtgjhgkglfflmjaaGreatDoorRatH
namespace Go.Proofs.YtgjhgkglfflmjaaGreatDoor
open Go Go.RowKit

theorem digits_r (l : List UInt8) (h : ¬ chk l = 12) (hlen : l.length ≤ 1099511627776) (g : Bool) (hg : ngB l = g) (w : World) :
    Calls Tryz.prog 62 #[.string ⟨l.toArray⟩] w (DigR (bod l).length g w) := by
  subst hg
  refine (digits_yes ⟨l.toArray⟩ w h hlen).mono ?_
  rintro e w' ⟨v, rfl, hown, hb⟩
  obtain ⟨A, c, rfl, _, _⟩ := SlA.of_own hown
  exact ⟨A, c, rfl, hb⟩
theorem digits_n (l : List UInt8) (h : chk l = 12) (hlen : l.length ≤ 1099511627776) (w : World) :
    Calls Tryz.prog 62 #[.string ⟨l.toArray⟩] w (DigN w) := digits_no ⟨l.toArray⟩ w h hlen
theorem bod_big {l : List UInt8} (h : chk l = 14) : 1000 < (bod l).length := by
  have e := chk_len (l := l) (by rw [h]; decide)
  rw [h] at e
  split at e
  · assumption
  · cases e
theorem bod_ok {l : List UInt8} (h : chk l = 0) : (bod l).length ≤ 1000 := (bod_len_of_chk h).1
theorem slS_yes {l : List UInt8} (h : hB l = true) : 0 ≤ slS l := by
  unfold hB at h
  unfold slS
  cases hs : spl l with
  | none => rw [hs] at h; cases h
  | some p => exact Int.natCast_nonneg _
theorem slS_no {l : List UInt8} (h : hB l = false) : slS l ≤ -1 := by
  unfold hB at h
  unfold slS
  cases hs : spl l with
  | none => exact Int.le_refl _
  | some p => rw [hs] at h; cases h
theorem okD_parts (d : List UInt8) : okD d = (!ngB d && !((⟨d.toArray⟩ : ByteArray).toList == [48]) && !((⟨d.toArray⟩ : ByteArray).toList == [49])) := by
  rw [Lib.toList_data]; rfl

set_option maxHeartbeats 1600000 in
theorem refRCheck_any (s : ByteArray) (hs : s.size ≤ 1048576) (w : World) :
    Calls Tryz.prog 27 #[.string s] w (IntB (chkR s.data.toList) w) := by
  have hl1 := nB_len s.data.toList
  have hl2 := dB_len s.data.toList
  rw [← Lib.size_eq] at hl1 hl2
  have HW : ∀ W, Calls Tryz.prog 61 #[.string s] W (WriR ⟨(nB s.data.toList).toArray⟩ ⟨(dB s.data.toList).toArray⟩ W) := fun W => written_any s hs W
  have HS : ∀ W, Calls Tryz.prog 63 #[.string s] W (IntR (slS s.data.toList) W) := fun W => slash_any s hs W
  have X12 := fun h => digits_n (nB s.data.toList) h (by omega)
  have Y12 := fun h => digits_n (dB s.data.toList) h (by omega)
  have XR := fun h => digits_r (nB s.data.toList) h (by omega) _ rfl
  have YR := fun h g hg => digits_r (dB s.data.toList) h (by omega) g hg
  have HG : chk (nB s.data.toList) = 0 → chk (dB s.data.toList) = 0 → ∀ W, Calls Tryz.prog 64 #[.string ⟨(nB s.data.toList).toArray⟩, .string ⟨(dB s.data.toList).toArray⟩] W
      (GcdR ⟨(Lib.itoa ((Nat.gcd (num (nB s.data.toList)).natAbs (num (dB s.data.toList)).natAbs : Nat) : Int)).toArray⟩ W) := fun hx hy W => by
    have := refGcd_any ⟨(nB s.data.toList).toArray⟩ ⟨(dB s.data.toList).toArray⟩ (by show (nB s.data.toList).length ≤ _; omega) (by show (dB s.data.toList).length ≤ _; omega) W
    rw [show (⟨(nB s.data.toList).toArray⟩ : ByteArray).data.toList = nB s.data.toList from rfl, show (⟨(dB s.data.toList).toArray⟩ : ByteArray).data.toList = dB s.data.toList from rfl, gcS_ok (by unfold bothE; rw [if_pos hx]; exact hy)] at this
    exact this
  have hgt := itoa_is_one (Nat.gcd (num (nB s.data.toList)).natAbs (num (dB s.data.toList)).natAbs)
  have HE := @chkR_eq s.data.toList
  have hod := okD_parts (dB s.data.toList)
  cases hh : hB s.data.toList
  · have hd := dB_plain hh
    have hsl := slS_no hh
    have hy : chk (dB s.data.toList) = 0 := by rw [hd]; exact chk_one
    have hg : ngB (dB s.data.toList) = false := by rw [hd]; rfl
    have hz : ((⟨(dB s.data.toList).toArray⟩ : ByteArray).toList == [48]) = false := by rw [hd]; decide +kernel
    have ho : ((⟨(dB s.data.toList).toArray⟩ : ByteArray).toList == [49]) = true := by rw [hd]; decide +kernel
    have hy2 := YR (by rw [hy]; decide) _ hg
    rcases chk_cases (nB s.data.toList) with hx | hx | hx
    · have e := HE hx hy hh rfl rfl
      simp at e
      rw [e]
      have g1 : Nat.gcd (num (nB s.data.toList)).natAbs (num (dB s.data.toList)).natAbs = 1 := by rw [hd, num_one]; simp
      exact cF0 s _ _ _ _ _ _ _ w HW HS hsl (XR (by rw [hx]; decide)) hy2 (bod_ok hx) (bod_ok hy) hz ho (HG hx hy) (by rw [hgt]; exact decide_eq_true g1)
    · have e := HE hx hy hh rfl rfl
      simp at e
      rw [e]
      exact cF12 s _ _ _ _ w HW HS hsl (X12 hx) hy2 (bod_ok hy) hz ho
    · have e := HE hx hy hh rfl rfl
      simp at e
      rw [e]
      exact cF14 s _ _ _ _ _ _ w HW HS hsl (XR (by rw [hx]; decide)) hy2 (bod_big hx) (bod_ok hy) hz ho
  · have hsl := slS_yes hh
    obtain ⟨g, hg⟩ : ∃ g, ngB (dB s.data.toList) = g := ⟨_, rfl⟩
    obtain ⟨z, hz⟩ : ∃ z, ((⟨(dB s.data.toList).toArray⟩ : ByteArray).toList == [48]) = z := ⟨_, rfl⟩
    obtain ⟨o, ho⟩ : ∃ o, ((⟨(dB s.data.toList).toArray⟩ : ByteArray).toList == [49]) = o := ⟨_, rfl⟩
    rw [hg, hz, ho] at hod
    rcases chk_cases (nB s.data.toList) with hx | hx | hx <;> rcases chk_cases (dB s.data.toList) with hy | hy | hy
    · cases g
      · cases z
        · cases o
          · by_cases hg1 : Nat.gcd (num (nB s.data.toList)).natAbs (num (dB s.data.toList)).natAbs = 1
            · have e := HE hx hy hh hod hg1
              simp at e
              rw [e]
              exact cT0_0_g s _ _ _ _ _ _ _ w HW HS hsl (XR (by rw [hx]; decide)) (YR (by rw [hy]; decide) _ hg) (bod_ok hx) (bod_ok hy) hz ho (HG hx hy) (by rw [hgt]; exact decide_eq_true hg1)
            · have e := HE hx hy hh hod rfl
              simp [hg1] at e
              rw [e]
              exact cT0_0_h s _ _ _ _ _ _ _ w HW HS hsl (XR (by rw [hx]; decide)) (YR (by rw [hy]; decide) _ hg) (bod_ok hx) (bod_ok hy) hz ho (HG hx hy) (by rw [hgt]; exact decide_eq_false hg1)
          · have e := HE hx hy hh hod rfl
            simp at e
            rw [e]
            exact cT0_0_o s _ _ _ _ _ _ w HW HS hsl (XR (by rw [hx]; decide)) (YR (by rw [hy]; decide) _ hg) (bod_ok hx) (bod_ok hy) hz ho
        · have e := HE hx hy hh hod rfl
          simp at e
          rw [e]
          exact cT0_0_z s _ _ _ _ _ _ w HW HS hsl (XR (by rw [hx]; decide)) (YR (by rw [hy]; decide) _ hg) (bod_ok hx) (bod_ok hy) hz
      · have e := HE hx hy hh hod rfl
        simp at e
        rw [e]
        exact cT0_0_n s _ _ _ _ _ _ w HW HS hsl (XR (by rw [hx]; decide)) (YR (by rw [hy]; decide) _ hg) (bod_ok hx) (bod_ok hy)
    · have e := HE hx hy hh hod rfl
      simp at e
      rw [e]
      exact cT0_12 s _ _ _ _ _ w HW HS hsl (XR (by rw [hx]; decide)) (Y12 hy) (bod_ok hx)
    · cases g
      · cases z
        · cases o
          · have e := HE hx hy hh hod rfl
            simp at e
            rw [e]
            exact cT0_14_k s _ _ _ _ _ _ w HW HS hsl (XR (by rw [hx]; decide)) (YR (by rw [hy]; decide) _ hg) (bod_ok hx) (bod_big hy) hz ho
          · have e := HE hx hy hh hod rfl
            simp at e
            rw [e]
            exact cT0_14_o s _ _ _ _ _ _ w HW HS hsl (XR (by rw [hx]; decide)) (YR (by rw [hy]; decide) _ hg) (bod_ok hx) (bod_big hy) hz ho
        · have e := HE hx hy hh hod rfl
          simp at e
          rw [e]
          exact cT0_14_z s _ _ _ _ _ _ w HW HS hsl (XR (by rw [hx]; decide)) (YR (by rw [hy]; decide) _ hg) (bod_ok hx) (bod_big hy) hz
      · have e := HE hx hy hh hod rfl
        simp at e
        rw [e]
        exact cT0_14_n s _ _ _ _ _ _ w HW HS hsl (XR (by rw [hx]; decide)) (YR (by rw [hy]; decide) _ hg) (bod_ok hx) (bod_big hy)
    · cases g
      · cases z
        · cases o
          · have e := HE hx hy hh hod rfl
            simp at e
            rw [e]
            exact cT12_0_k s _ _ _ _ w HW HS hsl (X12 hx) (YR (by rw [hy]; decide) _ hg) (bod_ok hy) hz ho
          · have e := HE hx hy hh hod rfl
            simp at e
            rw [e]
            exact cT12_0_o s _ _ _ _ w HW HS hsl (X12 hx) (YR (by rw [hy]; decide) _ hg) (bod_ok hy) hz ho
        · have e := HE hx hy hh hod rfl
          simp at e
          rw [e]
          exact cT12_0_z s _ _ _ _ w HW HS hsl (X12 hx) (YR (by rw [hy]; decide) _ hg) (bod_ok hy) hz
      · have e := HE hx hy hh hod rfl
        simp at e
        rw [e]
        exact cT12_0_n s _ _ _ _ w HW HS hsl (X12 hx) (YR (by rw [hy]; decide) _ hg) (bod_ok hy)
    · have e := HE hx hy hh hod rfl
      simp at e
      rw [e]
      exact cT12_12 s _ _ _ w HW HS hsl (X12 hx) (Y12 hy)
    · cases g
      · cases z
        · cases o
          · have e := HE hx hy hh hod rfl
            simp at e
            rw [e]
            exact cT12_14_k s _ _ _ _ w HW HS hsl (X12 hx) (YR (by rw [hy]; decide) _ hg) (bod_big hy) hz ho
          · have e := HE hx hy hh hod rfl
            simp at e
            rw [e]
            exact cT12_14_o s _ _ _ _ w HW HS hsl (X12 hx) (YR (by rw [hy]; decide) _ hg) (bod_big hy) hz ho
        · have e := HE hx hy hh hod rfl
          simp at e
          rw [e]
          exact cT12_14_z s _ _ _ _ w HW HS hsl (X12 hx) (YR (by rw [hy]; decide) _ hg) (bod_big hy) hz
      · have e := HE hx hy hh hod rfl
        simp at e
        rw [e]
        exact cT12_14_n s _ _ _ _ w HW HS hsl (X12 hx) (YR (by rw [hy]; decide) _ hg) (bod_big hy)
    · cases g
      · cases z
        · cases o
          · have e := HE hx hy hh hod rfl
            simp at e
            rw [e]
            exact cT14_0_k s _ _ _ _ _ _ w HW HS hsl (XR (by rw [hx]; decide)) (YR (by rw [hy]; decide) _ hg) (bod_big hx) (bod_ok hy) hz ho
          · have e := HE hx hy hh hod rfl
            simp at e
            rw [e]
            exact cT14_0_o s _ _ _ _ _ _ w HW HS hsl (XR (by rw [hx]; decide)) (YR (by rw [hy]; decide) _ hg) (bod_big hx) (bod_ok hy) hz ho
        · have e := HE hx hy hh hod rfl
          simp at e
          rw [e]
          exact cT14_0_z s _ _ _ _ _ _ w HW HS hsl (XR (by rw [hx]; decide)) (YR (by rw [hy]; decide) _ hg) (bod_big hx) (bod_ok hy) hz
      · have e := HE hx hy hh hod rfl
        simp at e
        rw [e]
        exact cT14_0_n s _ _ _ _ _ _ w HW HS hsl (XR (by rw [hx]; decide)) (YR (by rw [hy]; decide) _ hg) (bod_big hx) (bod_ok hy)
    · have e := HE hx hy hh hod rfl
      simp at e
      rw [e]
      exact cT14_12 s _ _ _ _ _ w HW HS hsl (XR (by rw [hx]; decide)) (Y12 hy) (bod_big hx)
    · cases g
      · cases z
        · cases o
          · have e := HE hx hy hh hod rfl
            simp at e
            rw [e]
            exact cT14_14_k s _ _ _ _ _ _ w HW HS hsl (XR (by rw [hx]; decide)) (YR (by rw [hy]; decide) _ hg) (bod_big hx) (bod_big hy) hz ho
          · have e := HE hx hy hh hod rfl
            simp at e
            rw [e]
            exact cT14_14_o s _ _ _ _ _ _ w HW HS hsl (XR (by rw [hx]; decide)) (YR (by rw [hy]; decide) _ hg) (bod_big hx) (bod_big hy) hz ho
        · have e := HE hx hy hh hod rfl
          simp at e
          rw [e]
          exact cT14_14_z s _ _ _ _ _ _ w HW HS hsl (XR (by rw [hx]; decide)) (YR (by rw [hy]; decide) _ hg) (bod_big hx) (bod_big hy) hz
      · have e := HE hx hy hh hod rfl
        simp at e
        rw [e]
        exact cT14_14_n s _ _ _ _ _ _ w HW HS hsl (XR (by rw [hx]; decide)) (YR (by rw [hy]; decide) _ hg) (bod_big hx) (bod_big hy)
end Go.Proofs.YtgjhgkglfflmjaaGreatDoor

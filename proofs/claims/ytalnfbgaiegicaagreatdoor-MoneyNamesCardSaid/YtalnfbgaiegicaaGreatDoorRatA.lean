/- Joined: RatA, RatB, RatC, RatD. -/
import Derived.Test.YtalnfbgaiegicaaGreatDoorIntA8
import Derived.Test.YtalnfbgaiegicaaGreatDoorShelf2
import Derived.Lib.IndexMore
/- Layer 2: texts of rationals: where they are cut, what is wrong with them. -/
namespace Go.Proofs.YtalnfbgaiegicaaGreatDoor
open Go Go.RowKit

/-- What stands before and behind the first slash. -/
def spl : List UInt8 → Option (List UInt8 × List UInt8)
  | [] => none
  | c :: r => if c = 47 then some ([], r) else (spl r).map fun p => (c :: p.1, p.2)
theorem spl_cut (l : List UInt8) : Lib.cut l [47] = match spl l with | some (a, b) => (a, b, true) | none => (l, [], false) := by
  have h : ∀ l : List UInt8, match spl l with | some (a, b) => Lib.index l [47] = (a.length : Int) ∧ l = a ++ 47 :: b | none => Lib.index l [47] = -1 := by
    intro l
    induction l with
    | nil => rfl
    | cons c r ih =>
      unfold spl Lib.index
      by_cases h : c = 47
      · subst h
        rw [if_pos rfl, if_pos (by simp)]
        exact ⟨rfl, rfl⟩
      · have h2 : ¬ (List.isPrefixOf [47] (c :: r) = true) := by
          simp only [List.isPrefixOf, Bool.and_eq_true, beq_iff_eq, not_and]
          exact fun e => absurd e.symm h
        rw [if_neg h, if_neg h2]
        cases hs : spl r with
        | none =>
          rw [hs] at ih
          simp only [Option.map_none]
          rw [ih]; rfl
        | some p =>
          obtain ⟨a, b⟩ := p
          rw [hs] at ih
          simp only [Option.map_some]
          obtain ⟨i1, i2⟩ := ih
          rw [i1, if_neg (by simp)]
          refine ⟨by simp, by rw [i2]; rfl⟩
  have hl := h l
  unfold Lib.cut
  cases hs : spl l with
  | none => rw [hs] at hl; simp only at hl; rw [hl, if_neg (by decide)]
  | some p =>
    obtain ⟨a, b⟩ := p
    rw [hs] at hl
    simp only at hl
    obtain ⟨h1, h2⟩ := hl
    rw [h1, if_pos (by omega), Int.toNat_natCast, h2]
    simp
theorem spl_at (l : List UInt8) : ∀ k, (∀ c ∈ l.take k, c ≠ 47) → l[k]? = some 47 → spl l = some (l.take k, l.drop (k + 1)) := by
  induction l with
  | nil => intro k _ h; simp at h
  | cons c r ih =>
    intro k h1 h2
    cases k with
    | zero =>
      simp only [List.getElem?_cons_zero, Option.some.injEq] at h2
      unfold spl
      rw [if_pos h2]; rfl
    | succ k =>
      have hc : c ≠ 47 := h1 c (by simp)
      unfold spl
      rw [if_neg hc, ih k (fun d hd => h1 d (by simp [hd])) (by simpa using h2)]
      rfl
theorem spl_none (l : List UInt8) (h : ∀ c ∈ l, c ≠ 47) : spl l = none := by
  induction l with
  | nil => rfl
  | cons c r ih =>
    unfold spl
    rw [if_neg (h c (by simp)), ih fun d hd => h d (by simp [hd])]; rfl
theorem spl_len {l a b : List UInt8} (h : spl l = some (a, b)) : l.length = a.length + 1 + b.length ∧ l.take a.length = a ∧ l.drop (a.length + 1) = b := by
  induction l generalizing a b with
  | nil => simp [spl] at h
  | cons c r ih =>
    unfold spl at h
    by_cases hc : c = 47
    · rw [if_pos hc] at h
      obtain ⟨rfl, rfl⟩ : [] = a ∧ r = b := by simpa using h
      simp
      omega
    · rw [if_neg hc] at h
      cases hs : spl r with
      | none => rw [hs] at h; simp at h
      | some p =>
        obtain ⟨a', b'⟩ := p
        rw [hs] at h
        obtain ⟨rfl, rfl⟩ : c :: a' = a ∧ b' = b := by simpa using h
        obtain ⟨h1, h2, h3⟩ := ih hs
        refine ⟨by simp; omega, by simp [h2], ?_⟩
        simpa using h3
def nB (l : List UInt8) : List UInt8 := match spl l with | some (a, _) => a | none => l
def dB (l : List UInt8) : List UInt8 := match spl l with | some (_, b) => b | none => [49]
def hB (l : List UInt8) : Bool := (spl l).isSome
def slS (l : List UInt8) : Int := match spl l with | some (a, _) => (a.length : Int) | none => -1
/-- Greater than 1, of a canonical integer. -/
def okD (d : List UInt8) : Bool := !ngB d && !(d == [48]) && !(d == [49])
/-- What Check answers. -/
def chkR (l : List UInt8) : Int :=
  if chk (nB l) = 12 ∨ chk (dB l) = 12 ∨ (hB l = true ∧ okD (dB l) = false) then 12
  else if ¬ chk (nB l) = 0 ∨ ¬ chk (dB l) = 0 then 14
  else if hB l = true ∧ ¬ Nat.gcd (num (nB l)).natAbs (num (dB l)).natAbs = 1 then 12 else 0
theorem nB_len (l : List UInt8) : (nB l).length ≤ l.length := by
  unfold nB
  cases h : spl l with
  | none => exact Nat.le_refl _
  | some p => obtain ⟨a, b⟩ := p; have := (spl_len h).1; simp only; omega
theorem dB_len (l : List UInt8) : (dB l).length ≤ l.length + 1 := by
  unfold dB
  cases h : spl l with
  | none => simp
  | some p => obtain ⟨a, b⟩ := p; have := (spl_len h).1; simp only; omega
theorem chk_one : chk [49] = 0 := by decide +kernel
theorem num_one : num [49] = 1 := by decide +kernel
theorem dB_plain {l : List UInt8} (h : hB l = false) : dB l = [49] := by
  unfold hB at h
  unfold dB
  cases hs : spl l with
  | none => rfl
  | some p => rw [hs] at h; simp at h
theorem okD_num {d : List UInt8} (hd : chk d = 0) : okD d = true ↔ 1 < num d := by
  have h := itoa_zero_num d hd
  unfold okD
  constructor
  · intro h1
    simp only [Bool.and_eq_true, Bool.not_eq_true', beq_eq_false_iff_ne] at h1
    obtain ⟨⟨h2, h3⟩, h4⟩ := h1
    have h5 := (ng_num hd).2 h2
    have h6 : num d ≠ 0 := fun e => h3 (by rw [h, e]; exact itoa_zero)
    have h7 : num d ≠ 1 := fun e => h4 (by rw [h, e]; decide +kernel)
    omega
  · intro h1
    simp only [Bool.and_eq_true, Bool.not_eq_true', beq_eq_false_iff_ne]
    refine ⟨⟨?_, ?_⟩, ?_⟩
    · cases hn : ngB d
      · rfl
      · have := (ng_num hd).1 hn; omega
    · intro e; rw [e, show num [48] = 0 by decide +kernel] at h1; omega
    · intro e; rw [e, num_one] at h1; omega
/-- A text of a canonical rational: its parts. -/
theorem chkR_zero {l : List UInt8} (h : chkR l = 0) : chk (nB l) = 0 ∧ chk (dB l) = 0 ∧ 1 ≤ num (dB l) ∧ Nat.gcd (num (nB l)).natAbs (num (dB l)).natAbs = 1 ∧ (hB l = true ↔ 1 < num (dB l)) := by
  unfold chkR at h
  split at h
  · cases h
  · next h1 =>
    split at h
    · cases h
    · next h2 =>
      split at h
      · cases h
      · next h3 =>
        have a1 : chk (nB l) = 0 := Classical.byContradiction fun e => h2 (.inl e)
        have a2 : chk (dB l) = 0 := Classical.byContradiction fun e => h2 (.inr e)
        cases hh : hB l
        · have e := dB_plain hh
          rw [e, num_one]
          refine ⟨a1, chk_one, by omega, by simp, by simp⟩
        · have ho : okD (dB l) = true := by
            cases ho : okD (dB l)
            · exact absurd (.inr (.inr ⟨hh, ho⟩)) h1
            · rfl
          have hn := (okD_num a2).1 ho
          refine ⟨a1, a2, by omega, Classical.byContradiction fun e => h3 ⟨hh, e⟩, by simp [hn]⟩
end Go.Proofs.YtalnfbgaiegicaaGreatDoor
/- The walks of layer 2: signs, divisors, texts. -/
namespace Go.Proofs.YtalnfbgaiegicaaGreatDoor
open Go Go.RowKit

theorem hasPrefix_ng (l : List UInt8) : Lib.hasPrefix l [45] = ngB l := by
  cases l with
  | nil => rfl
  | cons c r =>
    unfold Lib.hasPrefix ngB
    rw [Bool.eq_iff_iff]
    simp only [List.isPrefixOf, List.head?_cons, Bool.and_true, beq_iff_eq, Option.some.injEq]
    exact ⟨fun h => h.symm, fun h => h.symm⟩
theorem ret_ba {a b : ByteArray} (h : a = b) : Ending.returned (.string a) = .returned (.string b) := by rw [h]
theorem negative_any' (s : ByteArray) (b : Bool) (hb : ngB s.data.toList = b) (w : World) :
    Calls Tryz.prog 121 #[.string s] w fun e w' => e = .returned (.bool b) ∧ w = w' := by
  have HP := Tryz.strings_HasPrefix s ⟨#[45]⟩ w
  rw [show (⟨#[45]⟩ : ByteArray).data.toList = [45] from rfl, hasPrefix_ng, hb] at HP
  have HP := Lib.hid HP
  clear hb
  go_enter Tryz.func121, Tryz.ntmps121
  go_wp2_with (go_at_call 97; refine HP.out.mono ?_; rintro e w1 ⟨rfl, rfl⟩)
  go_ret
  exact ⟨rfl, rfl⟩
set_option maxHeartbeats 400000 in
theorem aboveOne_any (s : ByteArray) (b : Bool) (hb : okD s.data.toList = b) (w : World) :
    Calls Tryz.prog 112 #[.string s] w fun e w' => e = .returned (.bool b) ∧ w = w' := by
  obtain ⟨g, hg⟩ : ∃ g, ngB s.data.toList = g := ⟨_, rfl⟩
  have HN := Lib.hid (fun W => negative_any' s g hg W)
  obtain ⟨z, hz⟩ : ∃ z, (s.toList == [48]) = z := ⟨_, rfl⟩
  obtain ⟨o, ho⟩ : ∃ o, (s.toList == [49]) = o := ⟨_, rfl⟩
  have HB : Hid ((!g && !z && !o) = b) := by
    show _ = _
    rw [← hb, ← hg, ← hz, ← ho, Lib.toList_data]; rfl
  clear hb hg
  cases g <;> cases z <;> cases o
  all_goals
    go_enter Tryz.func112, Tryz.ntmps112
    go_wp2_with (go_at_call 121; refine (HN.out _).mono ?_; rintro e w1 ⟨rfl, rfl⟩)
    go_ret
    exact ⟨ret_bool HB.out, rfl⟩
theorem divisor_any (s t : ByteArray) (hs : s.size ≤ maxLen) (ht : t.size ≤ maxLen) (r : List UInt8 × Int) (hr : gcS s.data.toList t.data.toList = r) (w : World) (hv : VarT w) :
    Calls Tryz.prog 113 #[.string s, .string t] w fun e w' => e = .returned (.string ⟨r.1.toArray⟩) ∧ Below w.heap.size w w' := by
  have HG := gcd_any s t hs ht w hv
  rw [hr] at HG
  have HG := Lib.hid HG
  clear hr hs ht hv
  go_enter Tryz.func113, Tryz.ntmps113
  go_wp2_with (go_at_call 159; refine HG.out.mono ?_; rintro e w1 ⟨rfl, hb1⟩)
  go_ret
  exact ⟨rfl, hb1⟩
/-- The text of a fraction. -/
def txtL (n d : List UInt8) : List UInt8 := if d = [49] then n else n ++ 47 :: d
theorem cat_slash (n d : ByteArray) : n ++ (⟨#[47]⟩ : ByteArray) ++ d = ⟨(n.data.toList ++ 47 :: d.data.toList).toArray⟩ := by
  apply ByteArray.ext
  simp
set_option maxHeartbeats 400000 in
theorem rtext_any (n d : ByteArray) (hn : n.size ≤ 1073741824) (hd : d.size ≤ 1073741824) (w : World) :
    Calls Tryz.prog 101 #[.agg #[.string n, .string d]] w fun e w' => e = .returned (.string ⟨(txtL n.data.toList d.data.toList).toArray⟩) ∧ Below w.heap.size w w' := by
  have h1 : ¬ 9223372036854775807 < n.size + 1 := by omega
  have h2 : ¬ 9223372036854775807 < n.size + 1 + d.size := by omega
  by_cases h0 : d.data.toList = [49]
  · have e0 : (d.toList == [49]) = true := by rw [Lib.toList_data, h0]; rfl
    have HT : Hid (txtL n.data.toList d.data.toList = n.data.toList) := by show _ = _; unfold txtL; rw [if_pos h0]
    clear h0
    go_enter Tryz.func101, Tryz.ntmps101
    go_wp2
    go_ret
    exact ⟨ret_ba (by rw [HT.out]), (Below.refl _ _).alloc (Nat.le_refl _) _⟩
  · have e0 : (d.toList == [49]) = false := by rw [Lib.toList_data, beq_eq_false_iff_ne]; exact h0
    have HT : Hid (n ++ (⟨#[47]⟩ : ByteArray) ++ d = ⟨(txtL n.data.toList d.data.toList).toArray⟩) := by show _ = _; unfold txtL; rw [if_neg h0, cat_slash]
    clear h0
    go_enter Tryz.func101, Tryz.ntmps101
    go_wp2
    go_ret
    exact ⟨ret_ba HT.out, (Below.refl _ _).alloc (Nat.le_refl _) _⟩
end Go.Proofs.YtalnfbgaiegicaaGreatDoor
/- The walks of layer 2: the reduced fraction. -/
namespace Go.Proofs.YtalnfbgaiegicaaGreatDoor
open Go Go.RowKit

/-- The divisor of both parts, with the sign of the denominator. -/
def qG (x y : Int) : Int := if y < 0 then -((Nat.gcd x.natAbs y.natAbs : Nat) : Int) else ((Nat.gcd x.natAbs y.natAbs : Nat) : Int)
def qN (x y : Int) : Int := x / qG x y
def qD (x y : Int) : Int := y / qG x y
theorem qG_ne {x y : Int} (h : y ≠ 0) : qG x y ≠ 0 := by
  have h1 : 0 < Nat.gcd x.natAbs y.natAbs := Nat.gcd_pos_of_pos_right _ (by omega)
  unfold qG
  split <;> omega
theorem qG_natAbs (x y : Int) : (qG x y).natAbs = Nat.gcd x.natAbs y.natAbs := by unfold qG; split <;> simp
theorem qG_dvd_left (x y : Int) : qG x y ∣ x := by
  rw [← Int.natAbs_dvd_natAbs, qG_natAbs]; exact Nat.gcd_dvd_left _ _
theorem qG_dvd_right (x y : Int) : qG x y ∣ y := by
  rw [← Int.natAbs_dvd_natAbs, qG_natAbs]; exact Nat.gcd_dvd_right _ _
theorem qN_mul (x y : Int) : qN x y * qG x y = x := Int.ediv_mul_cancel (qG_dvd_left x y)
theorem qD_mul (x y : Int) : qD x y * qG x y = y := Int.ediv_mul_cancel (qG_dvd_right x y)
theorem minus_cat (g : Int) (h : 0 < g) (s : ByteArray) (hs : rep g = s) : (⟨#[45]⟩ : ByteArray) ++ s = rep (-g) := by
  obtain ⟨u, rfl⟩ := Int.eq_ofNat_of_zero_le (show 0 ≤ g by omega)
  subst hs
  apply ByteArray.ext
  unfold rep
  rw [itoa_neg u (by omega), itoa_pos]
  simp
def FraR (n d : ByteArray) (w : World) (e : Ending) (w' : World) : Prop := e = .returned (.agg #[.string n, .string d]) ∧ Below w.heap.size w w'
theorem divisor_rep {x y g : Int} (hx : x.natAbs < lim) (hy : y.natAbs < lim) (hg : ((Nat.gcd x.natAbs y.natAbs : Nat) : Int) = g) (s t u : ByteArray) (hs : rep x = s) (ht : rep y = t) (hu : rep g = u) (w : World) (hv : VarT w) :
    Calls Tryz.prog 113 #[.string s, .string t] w (StrR u w) := by
  subst hs; subst ht; subst hu
  exact divisor_any (rep x) (rep y) (rep_size hx) (rep_size hy) _ (gcS_rep hx hy hg) w hv
theorem row_far {w w1 : World} {r : Nat} {t : TypeId} {cs : Array Value} (h : w.heap[r]? = some (.cells cs t (0, 0))) (hb : Below w.heap.size w w1) : w1.heap[r]? = some (.cells cs t (0, 0)) := (hb.block r (lt_of_block h)).trans h

set_option maxRecDepth 100000 in
set_option maxHeartbeats 1600000 in
theorem reduced_rep {x y : Int} (hx : x.natAbs < lim) (hy : y.natAbs < lim) (h0 : y ≠ 0) (s t u v : ByteArray) (hs : rep x = s) (ht : rep y = t) (hu : rep (qN x y) = u) (hd : rep (qD x y) = v) (w : World) (hv : VarT w) :
    Calls Tryz.prog 114 #[.string s, .string t] w (FraR u v w) := by
  have hgp : 0 < Nat.gcd x.natAbs y.natAbs := Nat.gcd_pos_of_pos_right _ (by omega)
  have hgl : (Nat.gcd x.natAbs y.natAbs) ≤ y.natAbs := Nat.gcd_le_right _ (by omega)
  obtain ⟨sg, hsg⟩ : ∃ r, rep ((Nat.gcd x.natAbs y.natAbs : Nat) : Int) = r := ⟨_, rfl⟩
  have C1 := Lib.hid (divisor_rep hx hy rfl _ _ _ hs ht hsg)
  have LG : (qG x y).natAbs < lim := by rw [qG_natAbs]; omega
  have hng : ngB t.data.toList = decide (y < 0) := by
    have hc := chk_of_abs hy
    rw [← ht, rep_data]
    cases hn : ngB (Lib.itoa y)
    · have := (ng_num hc).2 hn; rw [num_itoa] at this; exact (decide_eq_false (by omega)).symm
    · have := (ng_num hc).1 hn; rw [num_itoa] at this; exact (decide_eq_true this).symm
  have hsz : ¬ 9223372036854775807 < 1 + sg.size := by
    have : ((Nat.gcd x.natAbs y.natAbs : Nat) : Int).natAbs < lim := by rw [Int.natAbs_natCast]; omega
    have := rep_size this
    have h2 := len_of_chk (chk_of_abs (z := ((Nat.gcd x.natAbs y.natAbs : Nat) : Int)) (by rw [Int.natAbs_natCast]; omega))
    rw [← hsg, Lib.size_eq, rep_data]; omega
  have HV := Lib.hid hv
  have HB := Lib.hid ((Below.refl _ w).alloc (Nat.le_refl _) (.cells #[.string ⟨#[]⟩, .string ⟨#[]⟩] 87))
  have HR := heap_alloc_new w (.cells #[.string ⟨#[]⟩, .string ⟨#[]⟩] 87)
  by_cases hneg : y < 0
  · have eG : qG x y = -((Nat.gcd x.natAbs y.natAbs : Nat) : Int) := by unfold qG; rw [if_pos hneg]
    have HN := Lib.hid (fun W => negative_any' t true (by rw [hng]; exact decide_eq_true hneg) W)
    have hcat : rep (qG x y) = (⟨#[45]⟩ : ByteArray) ++ sg := by rw [eG]; exact (minus_cat _ (by omega) sg hsg).symm
    obtain ⟨m1, e1⟩ : ∃ r, rep (x % qG x y) = r := ⟨_, rfl⟩
    obtain ⟨m2, e2⟩ : ∃ r, rep (y % qG x y) = r := ⟨_, rfl⟩
    have C2 := Lib.hid (divmod_rep hx LG (qG_ne h0) rfl rfl _ _ _ _ hs hcat hu e1)
    have C3 := Lib.hid (divmod_rep hy LG (qG_ne h0) rfl rfl _ _ _ _ ht hcat hd e2)
    clear hgp hgl hsg LG hng hcat eG e1 e2 hx hy h0 hs ht hu hd hv hneg
    go_enter Tryz.func114, Tryz.ntmps114
    go_wp2_with (first
      | (go_at_call 113; refine (C1.out _ (HV.out.below HB.out)).mono ?_; rintro e w1 ⟨rfl, b⟩; have B1 := Lib.hid (bt HB.out b); have R1 := row_far HR b; clear b)
      | (go_at_call 121; refine (HN.out _).mono ?_; rintro e w2 ⟨rfl, rfl⟩)
      | (go_at_call 120; (with_reducible refine (C2.out _ (HV.out.below B1.out)).mono ?_); rintro e w3 ⟨rfl, b⟩; have B2 := Lib.hid (bt B1.out b); have R2 := row_far R1 b; clear b)
      | (go_at_call 120; (with_reducible refine (C3.out _ (HV.out.below B2.out)).mono ?_); rintro e w4 ⟨rfl, b⟩; have B3 := Lib.hid (bt B2.out b); have R3 := row_far R2 b; obtain ⟨k1, k2, k3, k4⟩ := row2 R3; clear b))
    refine bodyPost_ret (v := .agg #[.string u, .string v]) (results_cell_row rfl _ _ w.heap.size 87 #[.string u, .string v] (0, 0) _ rfl (sc_row _ _ R3) Tryz.underlying87 (by kernel_rfl) (by kernel_rfl)) rfl ⟨rfl, ?_⟩
    exact (B3.out.setCell (p := ⟨w.heap.size, 0, none⟩) (Nat.le_refl _) _).setCell (p := ⟨w.heap.size, 1, none⟩) (Nat.le_refl _) _
  · have eG : qG x y = ((Nat.gcd x.natAbs y.natAbs : Nat) : Int) := by unfold qG; rw [if_neg hneg]
    have HN := Lib.hid (fun W => negative_any' t false (by rw [hng]; exact decide_eq_false hneg) W)
    have hcat : rep (qG x y) = sg := by rw [eG]; exact hsg
    obtain ⟨m1, e1⟩ : ∃ r, rep (x % qG x y) = r := ⟨_, rfl⟩
    obtain ⟨m2, e2⟩ : ∃ r, rep (y % qG x y) = r := ⟨_, rfl⟩
    have C2 := Lib.hid (divmod_rep hx LG (qG_ne h0) rfl rfl _ _ _ _ hs hcat hu e1)
    have C3 := Lib.hid (divmod_rep hy LG (qG_ne h0) rfl rfl _ _ _ _ ht hcat hd e2)
    clear hgp hgl hsg LG hng hcat eG e1 e2 hx hy h0 hs ht hu hd hv hneg
    go_enter Tryz.func114, Tryz.ntmps114
    go_wp2_with (first
      | (go_at_call 113; refine (C1.out _ (HV.out.below HB.out)).mono ?_; rintro e w1 ⟨rfl, b⟩; have B1 := Lib.hid (bt HB.out b); have R1 := row_far HR b; clear b)
      | (go_at_call 121; refine (HN.out _).mono ?_; rintro e w2 ⟨rfl, rfl⟩)
      | (go_at_call 120; (with_reducible refine (C2.out _ (HV.out.below B1.out)).mono ?_); rintro e w3 ⟨rfl, b⟩; have B2 := Lib.hid (bt B1.out b); have R2 := row_far R1 b; clear b)
      | (go_at_call 120; (with_reducible refine (C3.out _ (HV.out.below B2.out)).mono ?_); rintro e w4 ⟨rfl, b⟩; have B3 := Lib.hid (bt B2.out b); have R3 := row_far R2 b; obtain ⟨k1, k2, k3, k4⟩ := row2 R3; clear b))
    refine bodyPost_ret (v := .agg #[.string u, .string v]) (results_cell_row rfl _ _ w.heap.size 87 #[.string u, .string v] (0, 0) _ rfl (sc_row _ _ R3) Tryz.underlying87 (by kernel_rfl) (by kernel_rfl)) rfl ⟨rfl, ?_⟩
    exact (B3.out.setCell (p := ⟨w.heap.size, 0, none⟩) (Nat.le_refl _) _).setCell (p := ⟨w.heap.size, 1, none⟩) (Nat.le_refl _) _
end Go.Proofs.YtalnfbgaiegicaaGreatDoor
/- The walks of layer 2: Make, Ratio, Of. -/
namespace Go.Proofs.YtalnfbgaiegicaaGreatDoor
open Go Go.RowKit

/-- What Make answers. -/
def mkS (l m : List UInt8) : List UInt8 × Int :=
  if bothE l m = 0 then (if num m = 0 then ([], 16) else (txtL (Lib.itoa (qN (num l) (num m))) (Lib.itoa (qD (num l) (num m))), 0)) else ([], bothE l m)
theorem mkS_err {l m : List UInt8} (h : ¬ bothE l m = 0) : mkS l m = ([], bothE l m) := by unfold mkS; rw [if_neg h]
theorem mkS_zero {l m : List UInt8} (h : bothE l m = 0) (h0 : num m = 0) : mkS l m = ([], 16) := by unfold mkS; rw [if_pos h, if_pos h0]
theorem mkS_ok {l m : List UInt8} (h : bothE l m = 0) (h0 : ¬ num m = 0) : mkS l m = (txtL (Lib.itoa (qN (num l) (num m))) (Lib.itoa (qD (num l) (num m))), 0) := by unfold mkS; rw [if_pos h, if_neg h0]
theorem qN_abs {x y : Int} (hx : x.natAbs < lim) : (qN x y).natAbs < lim := Nat.lt_of_le_of_lt (Int.natAbs_ediv_le_natAbs _ _) hx
theorem qD_abs {x y : Int} (hy : y.natAbs < lim) : (qD x y).natAbs < lim := Nat.lt_of_le_of_lt (Int.natAbs_ediv_le_natAbs _ _) hy
theorem rep_short {z : Int} (h : z.natAbs < lim) : (rep z).size ≤ 1001 := by rw [Lib.size_eq, rep_data]; exact len_of_chk (chk_of_abs h)
theorem rtext_is (n d : ByteArray) (l m : List UInt8) (hn : n.data.toList = l) (hd : d.data.toList = m) (hl : l.length ≤ 1073741824) (hm : m.length ≤ 1073741824) (w : World) :
    Calls Tryz.prog 101 #[.agg #[.string n, .string d]] w fun e w' => e = .returned (.string ⟨(txtL l m).toArray⟩) ∧ Below w.heap.size w w' := by
  subst hn; subst hd
  exact rtext_any n d (by rw [Lib.size_eq]; exact hl) (by rw [Lib.size_eq]; exact hm) w

section
variable (s t : ByteArray) (hs : s.size ≤ maxLen) (ht : t.size ≤ maxLen) (w : World) (hv : VarT w)
include hs ht hv
set_option maxRecDepth 100000 in
set_option maxHeartbeats 1600000 in
theorem make_any : Calls Tryz.prog 68 #[.string s, .string t] w fun e w' => e = .returned (.tuple #[.string ⟨(mkS s.data.toList t.data.toList).1.toArray⟩, .int .i64 (mkS s.data.toList t.data.toList).2]) ∧ Below w.heap.size w w' := by
  have CS := Lib.hid (fun W => check_any s W hs)
  have CT := Lib.hid (fun W => check_any t W ht)
  have HAL := Lib.hid (fun o => (Below.refl _ w).alloc (Nat.le_refl _) o)
  have HV := Lib.hid hv
  clear hv
  by_cases hb : bothE s.data.toList t.data.toList = 0
  · obtain ⟨hx, hy⟩ := bothE_zero hb
    have HO := Lib.hid (or_new 0 0 w)
    rw [if_pos rfl] at HO
    by_cases h0 : num t.data.toList = 0
    · have e0 : (t.toList == [48]) = true := by rw [Lib.toList_data, itoa_zero_num _ hy, h0, itoa_zero]; rfl
      rw [mkS_zero hb h0]
      rw [hx] at CS
      rw [hy] at CT
      clear hx hy hb hs ht h0
      go_enter Tryz.func68, Tryz.ntmps68
      go_wp2_with (first
        | (go_at_call 54; (with_reducible refine (CS.out _).mono ?_); rintro e w1 ⟨rfl, rfl⟩)
        | (go_at_call 54; (with_reducible refine (CT.out _).mono ?_); rintro e w1 ⟨rfl, rfl⟩)
        | (go_at_call 107; refine (HO.out _).mono ?_; rintro e w1 ⟨rfl, rfl⟩))
      go_ret2
      exact ⟨rfl, HAL.out _⟩
    · have e0 : (t.toList == [48]) = false := by
        rw [Lib.toList_data, beq_eq_false_iff_ne]
        intro h
        rw [h] at h0
        exact h0 (by decide +kernel)
      rw [mkS_ok hb h0]
      rw [hx] at CS
      rw [hy] at CT
      have Lx := abs_of_chk hx
      have Ly := abs_of_chk hy
      obtain ⟨u, hu⟩ : ∃ r, rep (qN (num s.data.toList) (num t.data.toList)) = r := ⟨_, rfl⟩
      obtain ⟨v, hd⟩ : ∃ r, rep (qD (num s.data.toList) (num t.data.toList)) = r := ⟨_, rfl⟩
      have CR := Lib.hid (reduced_rep Lx Ly h0 s t u v (rep_num s hx).symm (rep_num t hy).symm hu hd)
      have CX := Lib.hid (rtext_is u v (Lib.itoa (qN (num s.data.toList) (num t.data.toList))) (Lib.itoa (qD (num s.data.toList) (num t.data.toList))) (by rw [← hu]; rfl) (by rw [← hd]; rfl)
        (by have := len_of_chk (chk_of_abs (qN_abs (y := num t.data.toList) Lx)); omega) (by have := len_of_chk (chk_of_abs (qD_abs (x := num s.data.toList) Ly)); omega))
      generalize txtL (Lib.itoa (qN (num s.data.toList) (num t.data.toList))) (Lib.itoa (qD (num s.data.toList) (num t.data.toList))) = r at CX ⊢
      clear hx hy hb hs ht h0 Lx Ly hu hd
      go_enter Tryz.func68, Tryz.ntmps68
      go_wp2_with (first
        | (go_at_call 54; (with_reducible refine (CS.out _).mono ?_); rintro e w1 ⟨rfl, rfl⟩)
        | (go_at_call 54; (with_reducible refine (CT.out _).mono ?_); rintro e w1 ⟨rfl, rfl⟩)
        | (go_at_call 107; refine (HO.out _).mono ?_; rintro e w1 ⟨rfl, rfl⟩)
        | (go_at_call 114; refine (CR.out _ (HV.out.below (HAL.out _))).mono ?_; rintro e w2 ⟨rfl, b⟩; have B2 := Lib.hid (bt (HAL.out _) b); clear b)
        | (go_at_call 101; refine (CX.out _).mono ?_; rintro e w3 ⟨rfl, b⟩; have B3 := Lib.hid (bt B2.out b); clear b))
      go_ret2
      exact ⟨rfl, B3.out⟩
  · rw [mkS_err hb]
    unfold bothE at hb ⊢
    obtain ⟨x, hx⟩ : ∃ x, chk s.data.toList = x := ⟨_, rfl⟩
    obtain ⟨y, hy⟩ : ∃ y, chk t.data.toList = y := ⟨_, rfl⟩
    rw [hx] at CS hb ⊢
    rw [hy] at CT hb ⊢
    have HO := Lib.hid (or_new x y w)
    generalize (if x = 0 then y else x) = z at *
    have h1 : (z == 0) = false := by rw [beq_eq_false_iff_ne]; exact hb
    clear hx hy hs ht hb
    go_enter Tryz.func68, Tryz.ntmps68
    go_wp2_with (first
      | (go_at_call 54; (with_reducible refine (CS.out _).mono ?_); rintro e w1 ⟨rfl, rfl⟩)
      | (go_at_call 54; (with_reducible refine (CT.out _).mono ?_); rintro e w1 ⟨rfl, rfl⟩)
      | (go_at_call 107; refine (HO.out _).mono ?_; rintro e w1 ⟨rfl, rfl⟩))
    go_ret2
    exact ⟨rfl, HAL.out _⟩
end

theorem of_anyT (n : Int) (h0 : -9223372036854775808 ≤ n) (h1 : n ≤ 9223372036854775807) (w : World) (hv : VarT w) :
    Calls Tryz.prog 50 #[.int .i64 n] w fun e w' => e = .returned (.string ⟨(Lib.itoa n).toArray⟩) ∧ Below w.heap.size w w' := by
  have HI := Lib.hid (Tryz.strconv_Itoa n h0 h1 w hv.tab)
  clear hv
  go_enter Tryz.func50, Tryz.ntmps50
  go_wp2_with (go_at_call 89; refine HI.out.mono ?_; rintro e w1 ⟨rfl, k, os, rfl⟩)
  go_ret
  exact ⟨rfl, below_grow _ _ _⟩
theorem itoa_size (n : Int) (h0 : -9223372036854775808 ≤ n) (h1 : n ≤ 9223372036854775807) : (⟨(Lib.itoa n).toArray⟩ : ByteArray).size ≤ maxLen := by
  have := len_of_chk (chk_of_abs (small_abs n h0 h1))
  show (Lib.itoa n).length ≤ maxLen
  unfold maxLen; omega
theorem rof_any (n : Int) (h0 : -9223372036854775808 ≤ n) (h1 : n ≤ 9223372036854775807) (w : World) (hv : VarT w) :
    Calls Tryz.prog 27 #[.int .i64 n] w fun e w' => e = .returned (.string ⟨(Lib.itoa n).toArray⟩) ∧ Below w.heap.size w w' := by
  have HI := Lib.hid (of_anyT n h0 h1 w hv)
  clear hv
  go_enter Tryz.func27, Tryz.ntmps27
  go_wp2_with (go_at_call 50; refine HI.out.mono ?_; rintro e w1 ⟨rfl, b⟩)
  go_ret
  exact ⟨rfl, b⟩
set_option maxHeartbeats 400000 in
theorem ratio_any (n d : Int) (h0 : -9223372036854775808 ≤ n) (h1 : n ≤ 9223372036854775807) (k0 : -9223372036854775808 ≤ d) (k1 : d ≤ 9223372036854775807) (w : World) (hv : VarT w) :
    Calls Tryz.prog 37 #[.int .i64 n, .int .i64 d] w fun e w' => e = .returned (.tuple #[.string ⟨(mkS (Lib.itoa n) (Lib.itoa d)).1.toArray⟩, .int .i64 (mkS (Lib.itoa n) (Lib.itoa d)).2]) ∧ Below w.heap.size w w' := by
  have HV := Lib.hid hv
  have H1 := Lib.hid (of_anyT n h0 h1)
  have H2 := Lib.hid (of_anyT d k0 k1)
  have H3 := Lib.hid (make_any ⟨(Lib.itoa n).toArray⟩ ⟨(Lib.itoa d).toArray⟩ (itoa_size n h0 h1) (itoa_size d k0 k1))
  rw [show (⟨(Lib.itoa n).toArray⟩ : ByteArray).data.toList = Lib.itoa n from rfl, show (⟨(Lib.itoa d).toArray⟩ : ByteArray).data.toList = Lib.itoa d from rfl] at H3
  generalize Lib.itoa n = l at *
  generalize Lib.itoa d = m at *
  clear h0 h1 k0 k1 hv
  go_enter Tryz.func37, Tryz.ntmps37
  go_wp2_with (first
    | (go_at_call 50; (with_reducible refine (H1.out _ HV.out).mono ?_); rintro e w1 ⟨rfl, b1⟩)
    | (go_at_call 50; (with_reducible refine (H2.out _ (HV.out.below b1)).mono ?_); rintro e w2 ⟨rfl, b⟩; have b2 := bt b1 b; clear b)
    | (go_at_call 68; refine (H3.out _ (HV.out.below b2)).mono ?_; rintro e w3 ⟨rfl, b⟩; have b3 := bt b2 b; clear b))
  go_ret2
  exact ⟨rfl, b3⟩
end Go.Proofs.YtalnfbgaiegicaaGreatDoor

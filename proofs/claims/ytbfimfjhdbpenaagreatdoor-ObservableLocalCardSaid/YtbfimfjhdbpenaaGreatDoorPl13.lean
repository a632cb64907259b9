/- Joined: RatA, RatM. -/
import Derived.Test.YtbfimfjhdbpenaaGreatDoorPl12
import Derived.Test.YtbfimfjhdbpenaaGreatDoorPl6
import Derived.Lib.IndexMore
/- Joined: RatA, RatB, RatC, RatD. -/
/- Layer 2: texts of rationals: where they are cut, what is wrong with them. -/
namespace Go.Proofs.YtbfimfjhdbpenaaGreatDoor
open Go Go.RowKit
def spl : List UInt8 → Option (List UInt8 × List UInt8)
  | [] => none
  | c :: r => if c = 47 then some ([], r) else (spl r).map fun p => (c :: p.1, p.2)
theorem spl_cut (l : List UInt8) : Lib.cut l [47] = match spl l with | some (a, b) => (a, b, true) | none => (l, [], false) := by
  have h : ∀ l : List UInt8, match spl l with | some (a, b) => Lib.index l [47] = (a.length : Int) ∧ l = a ++ 47 :: b | none => Lib.index l [47] = -1 := by
    intro l
    induction l with
    | nil => rfl
    | cons c r ih =>
      unfold spl Lib.index
      by_cases h : c = 47
      · subst h
        rw [if_pos rfl, if_pos (by simp)]
        exact ⟨rfl, rfl⟩
      · have h2 : ¬ (List.isPrefixOf [47] (c :: r) = true) := by
          simp only [List.isPrefixOf, Bool.and_eq_true, beq_iff_eq, not_and]
          exact fun e => absurd e.symm h
        rw [if_neg h, if_neg h2]
        cases hs : spl r with
        | none =>
          rw [hs] at ih
          simp only [Option.map_none]
          rw [ih]; rfl
        | some p =>
          obtain ⟨a, b⟩ := p
          rw [hs] at ih
          simp only [Option.map_some]
          obtain ⟨i1, i2⟩ := ih
          rw [i1, if_neg (by simp)]
          refine ⟨by simp, by rw [i2]; rfl⟩
  have hl := h l
  unfold Lib.cut
  cases hs : spl l with
  | none => rw [hs] at hl; simp only at hl; rw [hl, if_neg (by decide)]
  | some p =>
    obtain ⟨a, b⟩ := p
    rw [hs] at hl
    simp only at hl
    obtain ⟨h1, h2⟩ := hl
    rw [h1, if_pos (by omega), Int.toNat_natCast, h2]
    simp
theorem spl_none (l : List UInt8) (h : ∀ c ∈ l, c ≠ 47) : spl l = none := by
  induction l with
  | nil => rfl
  | cons c r ih =>
    unfold spl
    rw [if_neg (h c (by simp)), ih fun d hd => h d (by simp [hd])]; rfl
theorem spl_len {l a b : List UInt8} (h : spl l = some (a, b)) : l.length = a.length + 1 + b.length ∧ l.take a.length = a ∧ l.drop (a.length + 1) = b := by
  induction l generalizing a b with
  | nil => simp [spl] at h
  | cons c r ih =>
    unfold spl at h
    by_cases hc : c = 47
    · rw [if_pos hc] at h
      obtain ⟨rfl, rfl⟩ : [] = a ∧ r = b := by simpa using h
      simp
      omega
    · rw [if_neg hc] at h
      cases hs : spl r with
      | none => rw [hs] at h; simp at h
      | some p =>
        obtain ⟨a', b'⟩ := p
        rw [hs] at h
        obtain ⟨rfl, rfl⟩ : c :: a' = a ∧ b' = b := by simpa using h
        obtain ⟨h1, h2, h3⟩ := ih hs
        refine ⟨by simp; omega, by simp [h2], ?_⟩
        simpa using h3
def nB (l : List UInt8) : List UInt8 := match spl l with | some (a, _) => a | none => l
def dB (l : List UInt8) : List UInt8 := match spl l with | some (_, b) => b | none => [49]
def hB (l : List UInt8) : Bool := (spl l).isSome
def okD (d : List UInt8) : Bool := !ngB d && !(d == [48]) && !(d == [49])
def chkR (l : List UInt8) : Int :=
  if chk (nB l) = 12 ∨ chk (dB l) = 12 ∨ (hB l = true ∧ okD (dB l) = false) then 12
  else if ¬ chk (nB l) = 0 ∨ ¬ chk (dB l) = 0 then 14
  else if hB l = true ∧ ¬ Nat.gcd (num (nB l)).natAbs (num (dB l)).natAbs = 1 then 12 else 0
theorem nB_len (l : List UInt8) : (nB l).length ≤ l.length := by
  unfold nB
  cases h : spl l with
  | none => exact Nat.le_refl _
  | some p => obtain ⟨a, b⟩ := p; have := (spl_len h).1; simp only; omega
theorem dB_len (l : List UInt8) : (dB l).length ≤ l.length + 1 := by
  unfold dB
  cases h : spl l with
  | none => simp
  | some p => obtain ⟨a, b⟩ := p; have := (spl_len h).1; simp only; omega
theorem chk_one : chk [49] = 0 := by decide +kernel
theorem num_one : num [49] = 1 := by decide +kernel
theorem dB_plain {l : List UInt8} (h : hB l = false) : dB l = [49] := by
  unfold hB at h
  unfold dB
  cases hs : spl l with
  | none => rfl
  | some p => rw [hs] at h; simp at h
theorem okD_num {d : List UInt8} (hd : chk d = 0) : okD d = true ↔ 1 < num d := by
  have h := itoa_zero_num d hd
  unfold okD
  constructor
  · intro h1
    simp only [Bool.and_eq_true, Bool.not_eq_true', beq_eq_false_iff_ne] at h1
    obtain ⟨⟨h2, h3⟩, h4⟩ := h1
    have h5 := (ng_num hd).2 h2
    have h6 : num d ≠ 0 := fun e => h3 (by rw [h, e]; exact itoa_zero)
    have h7 : num d ≠ 1 := fun e => h4 (by rw [h, e]; decide +kernel)
    omega
  · intro h1
    simp only [Bool.and_eq_true, Bool.not_eq_true', beq_eq_false_iff_ne]
    refine ⟨⟨?_, ?_⟩, ?_⟩
    · cases hn : ngB d
      · rfl
      · have := (ng_num hd).1 hn; omega
    · intro e; rw [e, show num [48] = 0 by decide +kernel] at h1; omega
    · intro e; rw [e, num_one] at h1; omega
theorem chkR_zero {l : List UInt8} (h : chkR l = 0) : chk (nB l) = 0 ∧ chk (dB l) = 0 ∧ 1 ≤ num (dB l) ∧ Nat.gcd (num (nB l)).natAbs (num (dB l)).natAbs = 1 ∧ (hB l = true ↔ 1 < num (dB l)) := by
  unfold chkR at h
  split at h
  · cases h
  · next h1 =>
    split at h
    · cases h
    · next h2 =>
      split at h
      · cases h
      · next h3 =>
        have a1 : chk (nB l) = 0 := Classical.byContradiction fun e => h2 (.inl e)
        have a2 : chk (dB l) = 0 := Classical.byContradiction fun e => h2 (.inr e)
        cases hh : hB l
        · have e := dB_plain hh
          rw [e, num_one]
          refine ⟨a1, chk_one, by omega, by simp, by simp⟩
        · have ho : okD (dB l) = true := by
            cases ho : okD (dB l)
            · exact absurd (.inr (.inr ⟨hh, ho⟩)) h1
            · rfl
          have hn := (okD_num a2).1 ho
          refine ⟨a1, a2, by omega, Classical.byContradiction fun e => h3 ⟨hh, e⟩, by simp [hn]⟩
end Go.Proofs.YtbfimfjhdbpenaaGreatDoor
/- The walks of layer 2: signs, divisors, texts. -/
namespace Go.Proofs.YtbfimfjhdbpenaaGreatDoor
open Go Go.RowKit
theorem hasPrefix_ng (l : List UInt8) : Lib.hasPrefix l [45] = ngB l := by
  cases l with
  | nil => rfl
  | cons c r =>
    unfold Lib.hasPrefix ngB
    rw [Bool.eq_iff_iff]
    simp only [List.isPrefixOf, List.head?_cons, Bool.and_true, beq_iff_eq, Option.some.injEq]
    exact ⟨fun h => h.symm, fun h => h.symm⟩
theorem ret_ba {a b : ByteArray} (h : a = b) : Ending.returned (.string a) = .returned (.string b) := by rw [h]
theorem negative_any' (s : ByteArray) (b : Bool) (hb : ngB s.data.toList = b) (w : World) :
    Calls Tryz.prog 165 #[.string s] w fun e w' => e = .returned (.bool b) ∧ w = w' := by
  have HP := Tryz.strings_HasPrefix s ⟨#[45]⟩ w
  rw [show (⟨#[45]⟩ : ByteArray).data.toList = [45] from rfl, hasPrefix_ng, hb] at HP
  have HP := Lib.hid HP
  clear hb
  go_enter Tryz.func165, Tryz.ntmps165
  go_wp2_with (go_at_call 183; refine HP.out.mono ?_; rintro e w1 ⟨rfl, rfl⟩)
  go_ret
  exact ⟨rfl, rfl⟩
set_option maxHeartbeats 400000 in
theorem aboveOne_any (s : ByteArray) (b : Bool) (hb : okD s.data.toList = b) (w : World) :
    Calls Tryz.prog 136 #[.string s] w fun e w' => e = .returned (.bool b) ∧ w = w' := by
  obtain ⟨g, hg⟩ : ∃ g, ngB s.data.toList = g := ⟨_, rfl⟩
  have HN := Lib.hid (fun W => negative_any' s g hg W)
  obtain ⟨z, hz⟩ : ∃ z, (s.toList == [48]) = z := ⟨_, rfl⟩
  obtain ⟨o, ho⟩ : ∃ o, (s.toList == [49]) = o := ⟨_, rfl⟩
  have HB : Hid ((!g && !z && !o) = b) := by
    show _ = _
    rw [← hb, ← hg, ← hz, ← ho, Lib.toList_data]; rfl
  clear hb hg
  cases g <;> cases z <;> cases o
  all_goals
    go_enter Tryz.func136, Tryz.ntmps136
    go_wp2_with (go_at_call 165; refine (HN.out _).mono ?_; rintro e w1 ⟨rfl, rfl⟩)
    go_ret
    exact ⟨ret_bool HB.out, rfl⟩
theorem divisor_any (s t : ByteArray) (hs : s.size ≤ maxLen) (ht : t.size ≤ maxLen) (r : List UInt8 × Int) (hr : gcS s.data.toList t.data.toList = r) (w : World) (hv : VarT w) :
    Calls Tryz.prog 137 #[.string s, .string t] w fun e w' => e = .returned (.string ⟨r.1.toArray⟩) ∧ Below w.heap.size w w' := by
  have HG := gcd_any s t hs ht w hv
  rw [hr] at HG
  have HG := Lib.hid HG
  clear hr hs ht hv
  go_enter Tryz.func137, Tryz.ntmps137
  go_wp2_with (go_at_call 168; refine HG.out.mono ?_; rintro e w1 ⟨rfl, hb1⟩)
  go_ret
  exact ⟨rfl, hb1⟩
def txtL (n d : List UInt8) : List UInt8 := if d = [49] then n else n ++ 47 :: d
theorem cat_slash (n d : ByteArray) : n ++ (⟨#[47]⟩ : ByteArray) ++ d = ⟨(n.data.toList ++ 47 :: d.data.toList).toArray⟩ := by
  apply ByteArray.ext
  simp
set_option maxHeartbeats 400000 in
theorem rtext_any (n d : ByteArray) (hn : n.size ≤ 1073741824) (hd : d.size ≤ 1073741824) (w : World) :
    Calls Tryz.prog 123 #[.agg #[.string n, .string d]] w fun e w' => e = .returned (.string ⟨(txtL n.data.toList d.data.toList).toArray⟩) ∧ Below w.heap.size w w' := by
  have h1 : ¬ 9223372036854775807 < n.size + 1 := by omega
  have h2 : ¬ 9223372036854775807 < n.size + 1 + d.size := by omega
  by_cases h0 : d.data.toList = [49]
  · have e0 : (d.toList == [49]) = true := by rw [Lib.toList_data, h0]; rfl
    have HT : Hid (txtL n.data.toList d.data.toList = n.data.toList) := by show _ = _; unfold txtL; rw [if_pos h0]
    clear h0
    go_enter Tryz.func123, Tryz.ntmps123
    go_wp2
    go_ret
    exact ⟨ret_ba (by rw [HT.out]), (Below.refl _ _).alloc (Nat.le_refl _) _⟩
  · have e0 : (d.toList == [49]) = false := by rw [Lib.toList_data, beq_eq_false_iff_ne]; exact h0
    have HT : Hid (n ++ (⟨#[47]⟩ : ByteArray) ++ d = ⟨(txtL n.data.toList d.data.toList).toArray⟩) := by show _ = _; unfold txtL; rw [if_neg h0, cat_slash]
    clear h0
    go_enter Tryz.func123, Tryz.ntmps123
    go_wp2
    go_ret
    exact ⟨ret_ba HT.out, (Below.refl _ _).alloc (Nat.le_refl _) _⟩
end Go.Proofs.YtbfimfjhdbpenaaGreatDoor
/- The walks of layer 2: the reduced fraction. -/
namespace Go.Proofs.YtbfimfjhdbpenaaGreatDoor
open Go Go.RowKit
def qG (x y : Int) : Int := if y < 0 then -((Nat.gcd x.natAbs y.natAbs : Nat) : Int) else ((Nat.gcd x.natAbs y.natAbs : Nat) : Int)
def qN (x y : Int) : Int := x / qG x y
def qD (x y : Int) : Int := y / qG x y
theorem qG_ne {x y : Int} (h : y ≠ 0) : qG x y ≠ 0 := by
  have h1 : 0 < Nat.gcd x.natAbs y.natAbs := Nat.gcd_pos_of_pos_right _ (by omega)
  unfold qG
  split <;> omega
theorem qG_natAbs (x y : Int) : (qG x y).natAbs = Nat.gcd x.natAbs y.natAbs := by unfold qG; split <;> simp
theorem minus_cat (g : Int) (h : 0 < g) (s : ByteArray) (hs : rep g = s) : (⟨#[45]⟩ : ByteArray) ++ s = rep (-g) := by
  obtain ⟨u, rfl⟩ := Int.eq_ofNat_of_zero_le (show 0 ≤ g by omega)
  subst hs
  apply ByteArray.ext
  unfold rep
  rw [itoa_neg u (by omega), itoa_pos]
  simp
def FraR (n d : ByteArray) (w : World) (e : Ending) (w' : World) : Prop := e = .returned (.agg #[.string n, .string d]) ∧ Below w.heap.size w w'
theorem divisor_rep {x y g : Int} (hx : x.natAbs < lim) (hy : y.natAbs < lim) (hg : ((Nat.gcd x.natAbs y.natAbs : Nat) : Int) = g) (s t u : ByteArray) (hs : rep x = s) (ht : rep y = t) (hu : rep g = u) (w : World) (hv : VarT w) :
    Calls Tryz.prog 137 #[.string s, .string t] w (StrR u w) := by
  subst hs; subst ht; subst hu
  exact divisor_any (rep x) (rep y) (rep_size hx) (rep_size hy) _ (gcS_rep hx hy hg) w hv
theorem row_far {w w1 : World} {r : Nat} {t : TypeId} {cs : Array Value} (h : w.heap[r]? = some (.cells cs t (0, 0))) (hb : Below w.heap.size w w1) : w1.heap[r]? = some (.cells cs t (0, 0)) := (hb.block r (lt_of_block h)).trans h
set_option maxRecDepth 100000 in
set_option maxHeartbeats 1600000 in
theorem reduced_rep {x y : Int} (hx : x.natAbs < lim) (hy : y.natAbs < lim) (h0 : y ≠ 0) (s t u v : ByteArray) (hs : rep x = s) (ht : rep y = t) (hu : rep (qN x y) = u) (hd : rep (qD x y) = v) (w : World) (hv : VarT w) :
    Calls Tryz.prog 127 #[.string s, .string t] w (FraR u v w) := by
  have hgp : 0 < Nat.gcd x.natAbs y.natAbs := Nat.gcd_pos_of_pos_right _ (by omega)
  have hgl : (Nat.gcd x.natAbs y.natAbs) ≤ y.natAbs := Nat.gcd_le_right _ (by omega)
  obtain ⟨sg, hsg⟩ : ∃ r, rep ((Nat.gcd x.natAbs y.natAbs : Nat) : Int) = r := ⟨_, rfl⟩
  have C1 := Lib.hid (divisor_rep hx hy rfl _ _ _ hs ht hsg)
  have LG : (qG x y).natAbs < lim := by rw [qG_natAbs]; omega
  have hng : ngB t.data.toList = decide (y < 0) := by
    have hc := chk_of_abs hy
    rw [← ht, rep_data]
    cases hn : ngB (Lib.itoa y)
    · have := (ng_num hc).2 hn; rw [num_itoa] at this; exact (decide_eq_false (by omega)).symm
    · have := (ng_num hc).1 hn; rw [num_itoa] at this; exact (decide_eq_true this).symm
  have hsz : ¬ 9223372036854775807 < 1 + sg.size := by
    have : ((Nat.gcd x.natAbs y.natAbs : Nat) : Int).natAbs < lim := by rw [Int.natAbs_natCast]; omega
    have := rep_size this
    have h2 := len_of_chk (chk_of_abs (z := ((Nat.gcd x.natAbs y.natAbs : Nat) : Int)) (by rw [Int.natAbs_natCast]; omega))
    rw [← hsg, Lib.size_eq, rep_data]; omega
  have HV := Lib.hid hv
  have HB := Lib.hid ((Below.refl _ w).alloc (Nat.le_refl _) (.cells #[.string ⟨#[]⟩, .string ⟨#[]⟩] 111))
  have HR := heap_alloc_new w (.cells #[.string ⟨#[]⟩, .string ⟨#[]⟩] 111)
  by_cases hneg : y < 0
  · have eG : qG x y = -((Nat.gcd x.natAbs y.natAbs : Nat) : Int) := by unfold qG; rw [if_pos hneg]
    have HN := Lib.hid (fun W => negative_any' t true (by rw [hng]; exact decide_eq_true hneg) W)
    have hcat : rep (qG x y) = (⟨#[45]⟩ : ByteArray) ++ sg := by rw [eG]; exact (minus_cat _ (by omega) sg hsg).symm
    obtain ⟨m1, e1⟩ : ∃ r, rep (x % qG x y) = r := ⟨_, rfl⟩
    obtain ⟨m2, e2⟩ : ∃ r, rep (y % qG x y) = r := ⟨_, rfl⟩
    have C2 := Lib.hid (divmod_rep hx LG (qG_ne h0) rfl rfl _ _ _ _ hs hcat hu e1)
    have C3 := Lib.hid (divmod_rep hy LG (qG_ne h0) rfl rfl _ _ _ _ ht hcat hd e2)
    clear hgp hgl hsg LG hng hcat eG e1 e2 hx hy h0 hs ht hu hd hv hneg
    go_enter Tryz.func127, Tryz.ntmps127
    go_wp2_with (first
      | (go_at_call 137; refine (C1.out _ (HV.out.below HB.out)).mono ?_; rintro e w1 ⟨rfl, b⟩; have B1 := Lib.hid (bt HB.out b); have R1 := row_far HR b; clear b)
      | (go_at_call 165; refine (HN.out _).mono ?_; rintro e w2 ⟨rfl, rfl⟩)
      | (go_at_call 166; (with_reducible refine (C2.out _ (HV.out.below B1.out)).mono ?_); rintro e w3 ⟨rfl, b⟩; have B2 := Lib.hid (bt B1.out b); have R2 := row_far R1 b; clear b)
      | (go_at_call 166; (with_reducible refine (C3.out _ (HV.out.below B2.out)).mono ?_); rintro e w4 ⟨rfl, b⟩; have B3 := Lib.hid (bt B2.out b); have R3 := row_far R2 b; obtain ⟨k1, k2, k3, k4⟩ := row2 R3; clear b))
    refine bodyPost_ret (v := .agg #[.string u, .string v]) (results_cell_row rfl _ _ w.heap.size 111 #[.string u, .string v] (0, 0) _ rfl (sc_row _ _ R3) Tryz.underlying111 (by kernel_rfl) (by kernel_rfl)) rfl ⟨rfl, ?_⟩
    exact (B3.out.setCell (p := ⟨w.heap.size, 0, none⟩) (Nat.le_refl _) _).setCell (p := ⟨w.heap.size, 1, none⟩) (Nat.le_refl _) _
  · have eG : qG x y = ((Nat.gcd x.natAbs y.natAbs : Nat) : Int) := by unfold qG; rw [if_neg hneg]
    have HN := Lib.hid (fun W => negative_any' t false (by rw [hng]; exact decide_eq_false hneg) W)
    have hcat : rep (qG x y) = sg := by rw [eG]; exact hsg
    obtain ⟨m1, e1⟩ : ∃ r, rep (x % qG x y) = r := ⟨_, rfl⟩
    obtain ⟨m2, e2⟩ : ∃ r, rep (y % qG x y) = r := ⟨_, rfl⟩
    have C2 := Lib.hid (divmod_rep hx LG (qG_ne h0) rfl rfl _ _ _ _ hs hcat hu e1)
    have C3 := Lib.hid (divmod_rep hy LG (qG_ne h0) rfl rfl _ _ _ _ ht hcat hd e2)
    clear hgp hgl hsg LG hng hcat eG e1 e2 hx hy h0 hs ht hu hd hv hneg
    go_enter Tryz.func127, Tryz.ntmps127
    go_wp2_with (first
      | (go_at_call 137; refine (C1.out _ (HV.out.below HB.out)).mono ?_; rintro e w1 ⟨rfl, b⟩; have B1 := Lib.hid (bt HB.out b); have R1 := row_far HR b; clear b)
      | (go_at_call 165; refine (HN.out _).mono ?_; rintro e w2 ⟨rfl, rfl⟩)
      | (go_at_call 166; (with_reducible refine (C2.out _ (HV.out.below B1.out)).mono ?_); rintro e w3 ⟨rfl, b⟩; have B2 := Lib.hid (bt B1.out b); have R2 := row_far R1 b; clear b)
      | (go_at_call 166; (with_reducible refine (C3.out _ (HV.out.below B2.out)).mono ?_); rintro e w4 ⟨rfl, b⟩; have B3 := Lib.hid (bt B2.out b); have R3 := row_far R2 b; obtain ⟨k1, k2, k3, k4⟩ := row2 R3; clear b))
    refine bodyPost_ret (v := .agg #[.string u, .string v]) (results_cell_row rfl _ _ w.heap.size 111 #[.string u, .string v] (0, 0) _ rfl (sc_row _ _ R3) Tryz.underlying111 (by kernel_rfl) (by kernel_rfl)) rfl ⟨rfl, ?_⟩
    exact (B3.out.setCell (p := ⟨w.heap.size, 0, none⟩) (Nat.le_refl _) _).setCell (p := ⟨w.heap.size, 1, none⟩) (Nat.le_refl _) _
end Go.Proofs.YtbfimfjhdbpenaaGreatDoor
/- The walks of layer 2: Make, Ratio, Of. -/
namespace Go.Proofs.YtbfimfjhdbpenaaGreatDoor
open Go Go.RowKit
theorem qN_abs {x y : Int} (hx : x.natAbs < lim) : (qN x y).natAbs < lim := Nat.lt_of_le_of_lt (Int.natAbs_ediv_le_natAbs _ _) hx
theorem qD_abs {x y : Int} (hy : y.natAbs < lim) : (qD x y).natAbs < lim := Nat.lt_of_le_of_lt (Int.natAbs_ediv_le_natAbs _ _) hy
theorem rtext_is (n d : ByteArray) (l m : List UInt8) (hn : n.data.toList = l) (hd : d.data.toList = m) (hl : l.length ≤ 1073741824) (hm : m.length ≤ 1073741824) (w : World) :
    Calls Tryz.prog 123 #[.agg #[.string n, .string d]] w fun e w' => e = .returned (.string ⟨(txtL l m).toArray⟩) ∧ Below w.heap.size w w' := by
  subst hn; subst hd
  exact rtext_any n d (by rw [Lib.size_eq]; exact hl) (by rw [Lib.size_eq]; exact hm) w
section
variable (s t : ByteArray) (hs : s.size ≤ maxLen) (ht : t.size ≤ maxLen) (w : World) (hv : VarT w)
include hs ht hv
end
end Go.Proofs.YtbfimfjhdbpenaaGreatDoor
/- Joined: RatM, RatO, RatN. -/
/- Layer 2: texts of rationals and the rational numbers themselves. No walk. -/
namespace Go.Proofs.YtbfimfjhdbpenaaGreatDoor
open Go Go.RowKit
theorem qN_rat {x y : Int} (h : y ≠ 0) : qN x y = (Rat.divInt x y).num := by
  have hg : ((Nat.gcd x.natAbs y.natAbs : Nat) : Int) ∣ x := Int.natAbs_dvd_natAbs.1 (by rw [Int.natAbs_natCast]; exact Nat.gcd_dvd_left _ _)
  have e : Int.gcd y x = Nat.gcd x.natAbs y.natAbs := Nat.gcd_comm _ _
  rw [Rat.num_divInt, e]
  unfold qN qG
  rcases Int.lt_trichotomy y 0 with h1 | h1 | h1
  · rw [if_pos h1, Int.sign_eq_neg_one_of_neg h1, Int.ediv_neg, Int.neg_one_mul, Int.neg_ediv_of_dvd hg]
  · exact absurd h1 h
  · rw [if_neg (by omega), Int.sign_eq_one_of_pos h1, Int.one_mul]
theorem qD_rat {x y : Int} (h : y ≠ 0) : qD x y = ((Rat.divInt x y).den : Int) := by
  have hg : ((Nat.gcd x.natAbs y.natAbs : Nat) : Int) ∣ y := Int.natAbs_dvd_natAbs.1 (by rw [Int.natAbs_natCast]; exact Nat.gcd_dvd_right _ _)
  have e : Int.gcd y x = Nat.gcd x.natAbs y.natAbs := Nat.gcd_comm _ _
  rw [Rat.den_divInt, if_neg h, e]
  unfold qD qG
  rcases Int.lt_trichotomy y 0 with h1 | h1 | h1
  · rw [if_pos h1, Int.natCast_ediv, Int.ediv_neg, ← Int.neg_ediv_of_dvd hg]
    congr 1; omega
  · exact absurd h1 h
  · rw [if_neg (by omega), Int.natCast_ediv]
    congr 1; omega
theorem rat_add (a b : Rat) : a + b = Rat.divInt (a.num * b.den + b.num * a.den) (a.den * b.den) := by
  rw [Rat.add_def', ← Rat.divInt_ofNat]; simp
theorem rat_sub (a b : Rat) : a - b = Rat.divInt (a.num * b.den - b.num * a.den) (a.den * b.den) := by
  rw [Rat.sub_def', ← Rat.divInt_ofNat]; simp
theorem rat_mul (a b : Rat) : a * b = Rat.divInt (a.num * b.num) (a.den * b.den) := by
  rw [Rat.mul_def', ← Rat.divInt_ofNat]; simp
def cmpQ (a b : Rat) : Int := if a < b then -1 else if b < a then 1 else 0
theorem cmpZ_rat (a b : Rat) : cmpZ (a.num * b.den) (b.num * a.den) = cmpQ a b := by
  unfold cmpZ cmpQ
  simp only [Rat.lt_iff]
theorem den_ne (q : Rat) : (q.den : Int) ≠ 0 := by have := q.den_pos; omega
theorem odB_slash (b : List UInt8) (h : odB b = true) : ∀ c ∈ b, c ≠ 47 := by
  intro c hc e
  have := (dgB_iff c).1 (List.all_eq_true.1 h c hc)
  rw [e] at this
  exact absurd this.1 (by decide)
theorem itoa_slash (z : Int) : ∀ c ∈ Lib.itoa z, c ≠ 47 := by
  have h : ¬ chk (Lib.itoa z) = 12 := by rw [chk_itoa]; split <;> decide
  rcases can_cases _ h with h1 | ⟨_, h2⟩
  · rw [h1]; intro c hc; simp at hc; rw [hc]; decide
  · cases hn : ngB (Lib.itoa z)
    · rw [bod_pos _ hn] at h2; exact odB_slash _ h2
    · intro c hc
      rw [neg_cons _ hn] at hc
      rcases List.mem_cons.1 hc with e | e
      · rw [e]; decide
      · exact odB_slash _ h2 c e
theorem spl_mid : ∀ (a b : List UInt8), (∀ c ∈ a, c ≠ 47) → spl (a ++ 47 :: b) = some (a, b)
  | [], b, _ => by simp [spl]
  | c :: r, b, h => by
    have h1 := spl_mid r b fun d hd => h d (by simp [hd])
    show spl (c :: (r ++ 47 :: b)) = _
    unfold spl
    rw [if_neg (h c (by simp)), h1]; rfl
theorem spl_at_back {l a b : List UInt8} (h : spl l = some (a, b)) : l = a ++ 47 :: b := by
  induction l generalizing a b with
  | nil => simp [spl] at h
  | cons c r ih =>
    unfold spl at h
    by_cases hc : c = 47
    · rw [if_pos hc] at h
      obtain ⟨rfl, rfl⟩ : [] = a ∧ r = b := by simpa using h
      rw [hc]; rfl
    · rw [if_neg hc] at h
      cases hs : spl r with
      | none => rw [hs] at h; simp at h
      | some p =>
        obtain ⟨a', b'⟩ := p
        rw [hs] at h
        obtain ⟨rfl, rfl⟩ : c :: a' = a ∧ b' = b := by simpa using h
        rw [ih hs]; rfl
theorem itoa_one : Lib.itoa 1 = [49] := by decide +kernel
def rq (q : Rat) : ByteArray := ⟨(txtL (Lib.itoa q.num) (Lib.itoa (q.den : Int))).toArray⟩
theorem rq_data (q : Rat) : (rq q).data.toList = txtL (Lib.itoa q.num) (Lib.itoa (q.den : Int)) := rfl
theorem rq_spl (q : Rat) : (q.den = 1 ∧ spl (rq q).data.toList = none ∧ (rq q).data.toList = Lib.itoa q.num) ∨ (q.den ≠ 1 ∧ spl (rq q).data.toList = some (Lib.itoa q.num, Lib.itoa (q.den : Int))) := by
  rw [rq_data]
  unfold txtL
  by_cases h : q.den = 1
  · left
    have e : Lib.itoa (q.den : Int) = [49] := by rw [h]; exact itoa_one
    rw [if_pos e]
    exact ⟨h, spl_none _ (itoa_slash _), rfl⟩
  · right
    have e : ¬ Lib.itoa (q.den : Int) = [49] := by
      rw [← itoa_one]; intro g
      have := itoa_inj g; omega
    rw [if_neg e]
    exact ⟨h, spl_mid _ _ (itoa_slash _)⟩
theorem rq_nB (q : Rat) : nB (rq q).data.toList = Lib.itoa q.num := by
  unfold nB
  rcases rq_spl q with ⟨_, h, h2⟩ | ⟨_, h⟩
  · rw [h]; exact h2
  · rw [h]
theorem rq_dB (q : Rat) : dB (rq q).data.toList = Lib.itoa (q.den : Int) := by
  unfold dB
  rcases rq_spl q with ⟨hd, h, _⟩ | ⟨_, h⟩
  · rw [h, hd]; exact itoa_one.symm
  · rw [h]
theorem rq_hB (q : Rat) : hB (rq q).data.toList = decide (q.den ≠ 1) := by
  unfold hB
  rcases rq_spl q with ⟨hd, h, _⟩ | ⟨hd, h⟩
  · rw [h, hd]; rfl
  · rw [h, decide_eq_true hd]; rfl
def Sml (q : Rat) : Prop := q.num.natAbs < lim ∧ (q.den : Int).natAbs < lim
theorem rq_chk {q : Rat} (h : Sml q) : chkR (rq q).data.toList = 0 := by
  obtain ⟨hn, hd⟩ := h
  have c1 := chk_of_abs hn
  have c2 := chk_of_abs hd
  unfold chkR
  rw [rq_nB, rq_dB, rq_hB, c1, c2, num_itoa, num_itoa]
  rw [if_neg, if_neg, if_neg]
  · rintro ⟨_, g⟩; exact g (by rw [Int.natAbs_natCast]; exact q.reduced)
  · rintro (g | g) <;> exact g rfl
  · rintro (g | g | ⟨g, g2⟩)
    · cases g
    · cases g
    · have hp := q.den_pos
      have : okD (Lib.itoa (q.den : Int)) = true := (okD_num c2).2 (by
        rw [num_itoa]
        have := of_decide_eq_true g
        omega)
      rw [this] at g2; cases g2
theorem rq_of {s : ByteArray} (h : chkR s.data.toList = 0) : ∃ q : Rat, s = rq q ∧ q.num = num (nB s.data.toList) ∧ (q.den : Int) = num (dB s.data.toList) ∧ Sml q := by
  obtain ⟨h1, h2, h3, h4, h5⟩ := chkR_zero h
  have hd : ((num (dB s.data.toList)).toNat : Int) = num (dB s.data.toList) := by omega
  refine ⟨⟨num (nB s.data.toList), (num (dB s.data.toList)).toNat, by omega, ?_⟩, ?_, rfl, hd, ?_⟩
  · show Nat.gcd _ _ = 1
    rw [← h4]; congr 1; omega
  · apply WideShapes.bytes_inj
    rw [rq_data]
    show _ = txtL (Lib.itoa (num (nB s.data.toList))) (Lib.itoa ((num (dB s.data.toList)).toNat : Int))
    rw [hd, ← itoa_zero_num _ h1, ← itoa_zero_num _ h2]
    cases hh : hB s.data.toList
    · rw [dB_plain hh]
      unfold hB at hh
      unfold txtL nB
      cases hs : spl s.data.toList with
      | none => simp
      | some p => rw [hs] at hh; simp at hh
    · have hne : ¬ dB s.data.toList = [49] := by
        intro e
        have := h5.1 hh
        rw [e, num_one] at this; omega
      unfold txtL
      rw [if_neg hne]
      unfold hB at hh
      unfold nB dB
      cases hs : spl s.data.toList with
      | none => rw [hs] at hh; simp at hh
      | some p =>
        obtain ⟨a, b⟩ := p
        have hl := (spl_at_back hs)
        simpa using hl
  · have e (l : List UInt8) (hc : chk l = 0) : (num l).natAbs < lim := by
      have := chk_itoa (num l)
      rw [← itoa_zero_num l hc, hc] at this
      by_cases g : (num l).natAbs < lim
      · exact g
      · rw [if_neg g] at this; cases this
    exact ⟨e _ h1, by show (((num (dB s.data.toList)).toNat : Nat) : Int).natAbs < lim; rw [hd]; exact e _ h2⟩
end Go.Proofs.YtbfimfjhdbpenaaGreatDoor
/- Layer 2: the order of rational numbers. No walk. -/
namespace Go.Proofs.YtbfimfjhdbpenaaGreatDoor
open Go Go.RowKit
end Go.Proofs.YtbfimfjhdbpenaaGreatDoor
/- Layer 2: what the operations on rationals answer. No walk. -/
namespace Go.Proofs.YtbfimfjhdbpenaaGreatDoor
open Go Go.RowKit
def qv (l : List UInt8) : Rat := Rat.divInt (num (nB l)) (num (dB l))
theorem qv_rq (q : Rat) : qv (rq q).data.toList = q := by
  unfold qv; rw [rq_nB, rq_dB, num_itoa, num_itoa]; exact Rat.num_divInt_den q
def LB (z : Int) : Bool := decide (z.natAbs < lim)
theorem LB_true {z : Int} : LB z = true ↔ z.natAbs < lim := decide_eq_true_iff
theorem LB_false {z : Int} (h : LB z = false) : ¬ z.natAbs < lim := of_decide_eq_false h
def addC (a b : Rat) : Int := if LB (a.num * b.den) && LB (b.num * a.den) && LB (a.den * b.den) && LB (a.num * b.den + b.num * a.den) then 0 else 14
def subC (a b : Rat) : Int := if LB (a.num * b.den) && LB (b.num * a.den) && LB (a.den * b.den) && LB (a.num * b.den - b.num * a.den) then 0 else 14
def mulC (a b : Rat) : Int := if LB (a.num * b.num) && LB (a.den * b.den) then 0 else 14
def comC (a b : Rat) : Int := if LB (a.num * b.den) && LB (b.num * a.den) then 0 else 14
def nT (c : Int) (q : Rat) : ByteArray := if c = 0 then rep q.num else ⟨#[]⟩
def dT (c : Int) (q : Rat) : ByteArray := if c = 0 then rep (q.den : Int) else ⟨#[]⟩
def qT (c : Int) (q : Rat) : ByteArray := if c = 0 then rq q else ⟨#[]⟩
def twC (f : Rat → Rat → Int) (l m : List UInt8) : Int := if ¬ chkR l = 0 then chkR l else if ¬ chkR m = 0 then chkR m else f (qv l) (qv m)
def twT (f : Rat → Rat → Int) (g : Rat → Rat → Rat) (l m : List UInt8) : ByteArray := qT (twC f l m) (g (qv l) (qv m))
theorem twC_rq {f : Rat → Rat → Int} {a b : Rat} (ha : Sml a) (hb : Sml b) : twC f (rq a).data.toList (rq b).data.toList = f a b := by
  unfold twC; rw [if_neg (fun h => h (rq_chk ha)), if_neg (fun h => h (rq_chk hb)), qv_rq, qv_rq]
theorem twT_rq {f : Rat → Rat → Int} {g : Rat → Rat → Rat} {a b : Rat} (ha : Sml a) (hb : Sml b) : twT f g (rq a).data.toList (rq b).data.toList = qT (f a b) (g a b) := by
  unfold twT; rw [twC_rq ha hb, qv_rq, qv_rq]
theorem twC_l {f : Rat → Rat → Int} {l m : List UInt8} (h : ¬ chkR l = 0) : twC f l m = chkR l := by unfold twC; rw [if_pos h]
theorem twC_r {f : Rat → Rat → Int} {l m : List UInt8} (h0 : chkR l = 0) (h : ¬ chkR m = 0) : twC f l m = chkR m := by unfold twC; rw [if_neg (fun g => g h0), if_pos h]
theorem qT_err {c : Int} {q : Rat} (h : ¬ c = 0) : qT c q = ⟨#[]⟩ := if_neg h
theorem qT_ok (q : Rat) : qT 0 q = rq q := if_pos rfl
theorem nT_err {c : Int} {q : Rat} (h : ¬ c = 0) : nT c q = ⟨#[]⟩ := if_neg h
theorem nT_ok (q : Rat) : nT 0 q = rep q.num := if_pos rfl
theorem dT_err {c : Int} {q : Rat} (h : ¬ c = 0) : dT c q = ⟨#[]⟩ := if_neg h
theorem dT_ok (q : Rat) : dT 0 q = rep (q.den : Int) := if_pos rfl
theorem sml_divInt {x y : Int} (h : y ≠ 0) (hx : x.natAbs < lim) (hy : y.natAbs < lim) : Sml (Rat.divInt x y) := by
  constructor
  · rw [← qN_rat h]; exact qN_abs hx
  · rw [← qD_rat h]; exact qD_abs hy
theorem den_mul_ne (a b : Rat) : (a.den * b.den : Int) ≠ 0 := Int.mul_ne_zero (den_ne a) (den_ne b)
theorem addC_ok {a b : Rat} (h : addC a b = 0) : (a.num * b.den : Int).natAbs < lim ∧ (b.num * a.den : Int).natAbs < lim ∧ (a.den * b.den : Int).natAbs < lim ∧ (a.num * b.den + b.num * a.den : Int).natAbs < lim ∧ Sml (a + b) := by
  unfold addC at h
  split at h
  · next g =>
    simp only [Bool.and_eq_true, LB_true] at g
    obtain ⟨⟨⟨g1, g2⟩, g3⟩, g4⟩ := g
    exact ⟨g1, g2, g3, g4, by rw [rat_add]; exact sml_divInt (den_mul_ne a b) g4 g3⟩
  · cases h
theorem subC_ok {a b : Rat} (h : subC a b = 0) : (a.num * b.den : Int).natAbs < lim ∧ (b.num * a.den : Int).natAbs < lim ∧ (a.den * b.den : Int).natAbs < lim ∧ (a.num * b.den - b.num * a.den : Int).natAbs < lim ∧ Sml (a - b) := by
  unfold subC at h
  split at h
  · next g =>
    simp only [Bool.and_eq_true, LB_true] at g
    obtain ⟨⟨⟨g1, g2⟩, g3⟩, g4⟩ := g
    exact ⟨g1, g2, g3, g4, by rw [rat_sub]; exact sml_divInt (den_mul_ne a b) g4 g3⟩
  · cases h
theorem mulC_ok {a b : Rat} (h : mulC a b = 0) : (a.num * b.num : Int).natAbs < lim ∧ (a.den * b.den : Int).natAbs < lim ∧ Sml (a * b) := by
  unfold mulC at h
  split at h
  · next g =>
    simp only [Bool.and_eq_true, LB_true] at g
    exact ⟨g.1, g.2, by rw [rat_mul]; exact sml_divInt (den_mul_ne a b) g.1 g.2⟩
  · cases h
end Go.Proofs.YtbfimfjhdbpenaaGreatDoor

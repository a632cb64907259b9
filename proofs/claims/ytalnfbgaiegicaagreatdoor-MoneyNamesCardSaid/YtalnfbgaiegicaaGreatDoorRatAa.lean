/- Joined: RatAa, RatAb. -/
import Derived.Test.YtalnfbgaiegicaaGreatDoorRatW
import Derived.Test.YtalnfbgaiegicaaGreatDoorRatG
/- The walks of layer 2: Check, Add, Sub, Mul, Div, Compare on texts. -/
namespace Go.Proofs.YtalnfbgaiegicaaGreatDoor
open Go Go.RowKit

theorem rq_size {q : Rat} (h : Sml q) : (rq q).size ≤ 2003 := by
  have h1 := len_of_chk (chk_of_abs h.1)
  have h2 := len_of_chk (chk_of_abs h.2)
  rw [Lib.size_eq, rq_data]
  unfold txtL
  split <;> simp <;> omega
theorem parse_q (q : Rat) (h : Sml q) (w : World) (hv : VarR w) :
    Calls Tryz.prog 63 #[.string (rq q)] w (PrsR (rep q.num) (rep (q.den : Int)) 0 w) := by
  have hp := parse_rat (rq q) (by have := rq_size h; omega) w hv
  obtain ⟨p1, p2⟩ := parS_ok (rq_chk h)
  rw [p1, p2, rq_chk h, rq_nB, rq_dB] at hp
  exact hp
theorem parse_e (s : ByteArray) (hs : s.size ≤ 1048576) (h : ¬ chkR s.data.toList = 0) (w : World) (hv : VarR w) :
    Calls Tryz.prog 63 #[.string s] w (PrsR ⟨#[]⟩ ⟨#[]⟩ (chkR s.data.toList) w) := by
  have hp := parse_rat s hs w hv
  obtain ⟨p1, p2⟩ := parS_err rfl h
  rw [p1, p2] at hp
  exact hp
theorem text_q (q : Rat) (h : Sml q) (w : World) :
    Calls Tryz.prog 101 #[.agg #[.string (rep q.num), .string (rep (q.den : Int))]] w (StrR (rq q) w) := by
  have h1 := len_of_chk (chk_of_abs h.1)
  have h2 := len_of_chk (chk_of_abs h.2)
  exact rtext_is (rep q.num) (rep (q.den : Int)) _ _ (rep_data _) (rep_data _) (by omega) (by omega) w
theorem addC_sml {a b : Rat} (h : addC a b = 0) : Sml (a + b) := (addC_ok h).2.2.2.2
theorem subC_sml {a b : Rat} (h : subC a b = 0) : Sml (a - b) := (subC_ok h).2.2.2.2
theorem mulC_sml {a b : Rat} (h : mulC a b = 0) : Sml (a * b) := (mulC_ok h).2.2
theorem divC_sml {a b : Rat} (h : divC a b = 0) : Sml (a / b) := (divC_ok h).2.2.2
/-- A text: wrong, or a rational's. -/
theorem text_cases (s : ByteArray) : ¬ chkR s.data.toList = 0 ∨ ∃ q, s = rq q ∧ Sml q := by
  by_cases h : chkR s.data.toList = 0
  · obtain ⟨q, h1, _, _, h2⟩ := rq_of h; exact .inr ⟨q, h1, h2⟩
  · exact .inl h
set_option maxRecDepth 100000 in
set_option maxHeartbeats 1600000 in
theorem rcheck_any (s : ByteArray) (hs : s.size ≤ 1048576) (w : World) (hv : VarR w) :
    Calls Tryz.prog 31 #[.string s] w (IntB (chkR s.data.toList) w) := by
  have HP := Lib.hid (parse_rat s hs w hv)
  generalize (⟨(parS s.data.toList).1.toArray⟩ : ByteArray) = N at *
  generalize (⟨(parS s.data.toList).2.toArray⟩ : ByteArray) = D at *
  generalize chkR s.data.toList = c at *
  clear hv hs
  go_enter Tryz.func31, Tryz.ntmps31
  go_wp2_with (go_at_call 63; refine HP.out.mono ?_; rintro e w1 ⟨rfl, b1⟩)
  go_ret
  exact ⟨rfl, b1.alloc b1.size _⟩
theorem rsub_walk (s t R : ByteArray) (c : Int) (w : World)
    (H : Calls Tryz.prog 55 #[.string s, .string t, .func (.func 57) #[] #[]] w (StE R c w)) :
    Calls Tryz.prog 26 #[.string s, .string t] w (StE R c w) := by
  have J := Lib.hid H
  clear H
  go_enter Tryz.func26, Tryz.ntmps26
  go_wp2_with (go_at_call 55; refine J.out.mono ?_; rintro e w1 ⟨rfl, b⟩; have B := Lib.hid b; clear b)
  go_ret2
  exact ⟨rfl, B.out⟩
theorem rsub_any (s t : ByteArray) (hs : s.size ≤ 1048576) (ht : t.size ≤ 1048576) (w : World) (hv : VarR w) :
    Calls Tryz.prog 26 #[.string s, .string t] w (StE (twT subC (· - ·) s.data.toList t.data.toList) (twC subC s.data.toList t.data.toList) w) := by
  refine rsub_walk s t _ _ w ?_
  rcases text_cases s with h1 | ⟨a, rfl, ha⟩
  · unfold twT
    rw [twC_l h1, qT_err h1]
    exact calc_parse _ _ _ _ _ _ _ _ h1 w (parseTwo_one s t w hv _ _ _ h1 (fun W hW => parse_e s hs h1 W hW))
  rcases text_cases t with h2 | ⟨b, rfl, hb⟩
  · unfold twT
    rw [twC_r (rq_chk ha) h2, qT_err h2]
    exact calc_parse _ _ _ _ _ _ _ _ h2 w (parseTwo_two _ t w hv _ _ _ _ _ h2 (fun W hW => parse_q a ha W hW) (fun W hW => parse_e t ht h2 W hW))
  rw [twT_rq ha hb, twC_rq ha hb]
  have HT := parseTwo_ok (rq a) (rq b) w hv _ _ _ _ (fun W hW => parse_q a ha W hW) (fun W hW => parse_q b hb W hW)
  by_cases h0 : subC a b = 0
  · have HK := fun W hW => difference_q a b ha hb W hW
    rw [h0, nT_ok, dT_ok] at HK
    rw [h0, qT_ok]
    exact calc_difference_ok _ _ _ _ _ _ _ _ _ w hv.t HT HK (fun W => text_q _ (subC_sml h0) W)
  · rw [qT_err h0]
    exact calc_difference_err _ _ _ _ _ _ _ _ _ h0 w hv.t HT (fun W hW => difference_q a b ha hb W hW)
theorem rmul_walk (s t R : ByteArray) (c : Int) (w : World)
    (H : Calls Tryz.prog 55 #[.string s, .string t, .func (.func 64) #[] #[]] w (StE R c w)) :
    Calls Tryz.prog 32 #[.string s, .string t] w (StE R c w) := by
  have J := Lib.hid H
  clear H
  go_enter Tryz.func32, Tryz.ntmps32
  go_wp2_with (go_at_call 55; refine J.out.mono ?_; rintro e w1 ⟨rfl, b⟩; have B := Lib.hid b; clear b)
  go_ret2
  exact ⟨rfl, B.out⟩
theorem rmul_any (s t : ByteArray) (hs : s.size ≤ 1048576) (ht : t.size ≤ 1048576) (w : World) (hv : VarR w) :
    Calls Tryz.prog 32 #[.string s, .string t] w (StE (twT mulC (· * ·) s.data.toList t.data.toList) (twC mulC s.data.toList t.data.toList) w) := by
  refine rmul_walk s t _ _ w ?_
  rcases text_cases s with h1 | ⟨a, rfl, ha⟩
  · unfold twT
    rw [twC_l h1, qT_err h1]
    exact calc_parse _ _ _ _ _ _ _ _ h1 w (parseTwo_one s t w hv _ _ _ h1 (fun W hW => parse_e s hs h1 W hW))
  rcases text_cases t with h2 | ⟨b, rfl, hb⟩
  · unfold twT
    rw [twC_r (rq_chk ha) h2, qT_err h2]
    exact calc_parse _ _ _ _ _ _ _ _ h2 w (parseTwo_two _ t w hv _ _ _ _ _ h2 (fun W hW => parse_q a ha W hW) (fun W hW => parse_e t ht h2 W hW))
  rw [twT_rq ha hb, twC_rq ha hb]
  have HT := parseTwo_ok (rq a) (rq b) w hv _ _ _ _ (fun W hW => parse_q a ha W hW) (fun W hW => parse_q b hb W hW)
  by_cases h0 : mulC a b = 0
  · have HK := fun W hW => product_q a b ha hb W hW
    rw [h0, nT_ok, dT_ok] at HK
    rw [h0, qT_ok]
    exact calc_product_ok _ _ _ _ _ _ _ _ _ w hv.t HT HK (fun W => text_q _ (mulC_sml h0) W)
  · rw [qT_err h0]
    exact calc_product_err _ _ _ _ _ _ _ _ _ h0 w hv.t HT (fun W hW => product_q a b ha hb W hW)
theorem rdiv_walk (s t R : ByteArray) (c : Int) (w : World)
    (H : Calls Tryz.prog 55 #[.string s, .string t, .func (.func 56) #[] #[]] w (StE R c w)) :
    Calls Tryz.prog 25 #[.string s, .string t] w (StE R c w) := by
  have J := Lib.hid H
  clear H
  go_enter Tryz.func25, Tryz.ntmps25
  go_wp2_with (go_at_call 55; refine J.out.mono ?_; rintro e w1 ⟨rfl, b⟩; have B := Lib.hid b; clear b)
  go_ret2
  exact ⟨rfl, B.out⟩
theorem rdiv_any (s t : ByteArray) (hs : s.size ≤ 1048576) (ht : t.size ≤ 1048576) (w : World) (hv : VarR w) :
    Calls Tryz.prog 25 #[.string s, .string t] w (StE (twT divC (· / ·) s.data.toList t.data.toList) (twC divC s.data.toList t.data.toList) w) := by
  refine rdiv_walk s t _ _ w ?_
  rcases text_cases s with h1 | ⟨a, rfl, ha⟩
  · unfold twT
    rw [twC_l h1, qT_err h1]
    exact calc_parse _ _ _ _ _ _ _ _ h1 w (parseTwo_one s t w hv _ _ _ h1 (fun W hW => parse_e s hs h1 W hW))
  rcases text_cases t with h2 | ⟨b, rfl, hb⟩
  · unfold twT
    rw [twC_r (rq_chk ha) h2, qT_err h2]
    exact calc_parse _ _ _ _ _ _ _ _ h2 w (parseTwo_two _ t w hv _ _ _ _ _ h2 (fun W hW => parse_q a ha W hW) (fun W hW => parse_e t ht h2 W hW))
  rw [twT_rq ha hb, twC_rq ha hb]
  have HT := parseTwo_ok (rq a) (rq b) w hv _ _ _ _ (fun W hW => parse_q a ha W hW) (fun W hW => parse_q b hb W hW)
  by_cases h0 : divC a b = 0
  · have HK := fun W hW => quotient_q a b ha hb W hW
    rw [h0, nT_ok, dT_ok] at HK
    rw [h0, qT_ok]
    exact calc_quotient_ok _ _ _ _ _ _ _ _ _ w hv.t HT HK (fun W => text_q _ (divC_sml h0) W)
  · rw [qT_err h0]
    exact calc_quotient_err _ _ _ _ _ _ _ _ _ h0 w hv.t HT (fun W hW => quotient_q a b ha hb W hW)
end Go.Proofs.YtalnfbgaiegicaaGreatDoor
/- The walks of layer 2: Compare. -/
namespace Go.Proofs.YtalnfbgaiegicaaGreatDoor
open Go Go.RowKit

def CmE (r c : Int) (w : World) (e : Ending) (w' : World) : Prop := e = .returned (.tuple #[.int .i64 r, .int .i64 c]) ∧ Below w.heap.size w w'
/-- Four blocks that Compare lays: both arguments, the kept error, the closure's variable. -/
theorem rows4c (w : World) (a b c d : Value) (t te tp : TypeId) (hv : VarT w) {w5 : World}
    (h5 : ((((w.alloc (.cells #[a, b] t (0, 0))).alloc (.cells #[c, d] t (0, 0))).alloc (.cells #[.int .i64 0] te (0, 0))).alloc (.cells #[.pointer (some ⟨w.heap.size + 1 + 1, 0, none⟩)] tp (0, 0))) = w5) :
    Clo w (w.heap.size + 1 + 1 + 1) (w.heap.size + 1 + 1) 0 w5 ∧
    w5.cell? ⟨w.heap.size, 0, none⟩ = some a ∧ w5.cell? ⟨w.heap.size, 1, none⟩ = some b ∧ w5.cell? ⟨w.heap.size + 1, 0, none⟩ = some c ∧ w5.cell? ⟨w.heap.size + 1, 1, none⟩ = some d := by
  have hh : w5.heap = ((((w.heap.push (.cells #[a, b] t (0, 0))).push (.cells #[c, d] t (0, 0))).push (.cells #[.int .i64 0] te (0, 0))).push (.cells #[.pointer (some ⟨w.heap.size + 1 + 1, 0, none⟩)] tp (0, 0))) := by subst h5; rfl
  have B : Below w.heap.size w w5 := by
    subst h5
    exact ((((Below.refl _ w).alloc (Nat.le_refl _) _).alloc (by simp) _).alloc (by simp; omega) _).alloc (by simp; omega) _
  clear h5
  have g0 : w5.heap[w.heap.size]? = some (.cells #[a, b] t (0, 0)) := by
    rw [hh]; simp only [Array.getElem?_push, Array.size_push]
    rw [if_neg (by omega), if_neg (by omega), if_neg (by omega), if_pos trivial]
  have g1 : w5.heap[w.heap.size + 1]? = some (.cells #[c, d] t (0, 0)) := by
    rw [hh]; simp only [Array.getElem?_push, Array.size_push]
    rw [if_neg (by omega), if_neg (by omega), if_pos trivial]
  have g3 : w5.heap[w.heap.size + 1 + 1]? = some (.cells #[.int .i64 0] te (0, 0)) := by
    rw [hh]; simp only [Array.getElem?_push, Array.size_push]
    rw [if_neg (by omega), if_pos trivial]
  have g4 : w5.heap[w.heap.size + 1 + 1 + 1]? = some (.cells #[.pointer (some ⟨w.heap.size + 1 + 1, 0, none⟩)] tp (0, 0)) := by
    rw [hh]; simp only [Array.getElem?_push, Array.size_push]
    rw [if_pos trivial]
  clear hh
  obtain ⟨k1, k2, _, _⟩ := row2 g0
  obtain ⟨k3, k4, _, _⟩ := row2 g1
  refine ⟨⟨B, hv.below B, ?_, ?_, ?_⟩, k1, k2, k3, k4⟩
  · simp only [World.cell?, g4]; rfl
  · simp only [World.cell?, g3]; rfl
  · simp only [World.frozen?, g3]; rfl
set_option maxRecDepth 100000 in
set_option maxHeartbeats 3200000 in
theorem compare_parse (s t a d a2 d2 : ByteArray) (c : Int) (h0 : ¬ c = 0) (w : World)
    (H : Calls Tryz.prog 58 #[.string s, .string t] w (TwoF a d a2 d2 c w)) :
    Calls Tryz.prog 28 #[.string s, .string t] w (CmE 0 c w) := by
  have J := Lib.hid H
  have hz : (c == 0) = false := by rw [beq_eq_false_iff_ne]; exact h0
  clear H h0
  go_enter Tryz.func28, Tryz.ntmps28
  go_wp2_with (go_at_call 58; refine J.out.mono ?_; rintro e w1 ⟨rfl, b⟩; have B := Lib.hid b; have hs1 := b.size; clear b)
  go_region
  go_wp2
  go_ret2
  exact ⟨rfl, Below.drew (((B.out.alloc hs1 _).alloc (by simp; omega) _).alloc (by simp; omega) _)⟩
set_option maxRecDepth 100000 in
set_option maxHeartbeats 3200000 in
theorem compare_err (s t an ad bn bd r1 r2 : ByteArray) (c1 c2 c : Int) (hc : (if c1 = 0 then c2 else c1) = c) (h0 : ¬ c = 0) (w : World) (hv : VarT w)
    (H : Calls Tryz.prog 58 #[.string s, .string t] w (TwoF an ad bn bd 0 w))
    (H1 : ∀ W, VarT W → Calls Tryz.prog 106 #[.string an, .string bd] W (StE r1 c1 W))
    (H2 : ∀ W, VarT W → Calls Tryz.prog 106 #[.string bn, .string ad] W (StE r2 c2 W)) :
    Calls Tryz.prog 28 #[.string s, .string t] w (CmE 0 c w) := by
  have J := Lib.hid H
  have J1 := Lib.hid H1
  have J2 := Lib.hid H2
  have HC := Lib.hid hc
  have hz : (c == 0) = false := by rw [beq_eq_false_iff_ne]; exact h0
  clear hc h0
  have HV0 := Lib.hid hv
  clear H H1 H2 hv
  go_enter Tryz.func28, Tryz.ntmps28
  go_wp2_with (first
    | (go_at_call 58; refine J.out.mono ?_; rintro e w1 ⟨rfl, b⟩; have B := Lib.hid b; have hs1 := b.size; have HV := Lib.hid (HV0.out.below b); have HR := Lib.hid (fun (w5 : World) => @rows4c w1 (.string an) (.string ad) (.string bn) (.string bd) 87 22 92 HV.out w5); clear b)
    | (go_at_call 59; refine (multiplier_any _ _).mono ?_; rintro e w5 ⟨rfl, h5⟩; obtain ⟨C0, k1, k2, k3, k4⟩ := HR.out w5 h5; clear h5))
  have hC0 := C0.drew
  clear C0
  go_region_held3 (fun w' => w'.cell? ⟨w1.heap.size, 0, none⟩ = some (.string an) ∧ w'.cell? ⟨w1.heap.size, 1, none⟩ = some (.string ad) ∧ w'.cell? ⟨w1.heap.size + 1, 0, none⟩ = some (.string bn) ∧ w'.cell? ⟨w1.heap.size + 1, 1, none⟩ = some (.string bd))
    (((try go_split_ands); (and_intros) <;> first | assumption | exact tim_far (by assumption) (by omega) b2 | exact tim_far (by assumption) (by omega) b1 | (go_keep; done)))
    (first
      | (go_split_ands; go_at_call 105; (with_reducible refine (hC0.call _ _ r1 c1 c1 (if_pos rfl) J1.out).mono ?_); rintro e w6 ⟨rfl, b1⟩; have hC1 := hC0.after (by omega) (by omega) HV.out b1)
      | (go_split_ands; go_at_call 105; (with_reducible refine (hC1.call _ _ r2 c2 c HC.out J2.out).mono ?_); rintro e w7 ⟨rfl, b2⟩; have hC2 := hC1.after (by omega) (by omega) HV.out b2))
  have hq := hC2.hq
  have HC2 := Lib.hid hC2
  clear hC0 hC1 hC2 b1 b2 k1 k2 k3 k4
  go_wp2
  go_region
  go_wp2
  go_ret2
  exact ⟨rfl, Below.drew (bt B.out HC2.out.bl)⟩
set_option maxRecDepth 100000 in
set_option maxHeartbeats 3200000 in
theorem compare_ok (s t an ad bn bd r1 r2 : ByteArray) (r : Int) (w : World) (hv : VarT w)
    (H : Calls Tryz.prog 58 #[.string s, .string t] w (TwoF an ad bn bd 0 w))
    (H1 : ∀ W, VarT W → Calls Tryz.prog 106 #[.string an, .string bd] W (StE r1 0 W))
    (H2 : ∀ W, VarT W → Calls Tryz.prog 106 #[.string bn, .string ad] W (StE r2 0 W))
    (H3 : ∀ W, VarT W → Calls Tryz.prog 60 #[.string r1, .string r2] W (CmpR r W)) :
    Calls Tryz.prog 28 #[.string s, .string t] w (CmE r 0 w) := by
  have J := Lib.hid H
  have J1 := Lib.hid H1
  have J2 := Lib.hid H2
  have J3 := Lib.hid H3
  clear H3
  have HV0 := Lib.hid hv
  clear H H1 H2 hv
  go_enter Tryz.func28, Tryz.ntmps28
  go_wp2_with (first
    | (go_at_call 58; refine J.out.mono ?_; rintro e w1 ⟨rfl, b⟩; have B := Lib.hid b; have hs1 := b.size; have HV := Lib.hid (HV0.out.below b); have HR := Lib.hid (fun (w5 : World) => @rows4c w1 (.string an) (.string ad) (.string bn) (.string bd) 87 22 92 HV.out w5); clear b)
    | (go_at_call 59; refine (multiplier_any _ _).mono ?_; rintro e w5 ⟨rfl, h5⟩; obtain ⟨C0, k1, k2, k3, k4⟩ := HR.out w5 h5; clear h5))
  have hC0 := C0.drew
  clear C0
  go_region_held3 (fun w' => w'.cell? ⟨w1.heap.size, 0, none⟩ = some (.string an) ∧ w'.cell? ⟨w1.heap.size, 1, none⟩ = some (.string ad) ∧ w'.cell? ⟨w1.heap.size + 1, 0, none⟩ = some (.string bn) ∧ w'.cell? ⟨w1.heap.size + 1, 1, none⟩ = some (.string bd))
    (((try go_split_ands); (and_intros) <;> first | assumption | exact tim_far (by assumption) (by omega) b2 | exact tim_far (by assumption) (by omega) b1 | (go_keep; done)))
    (first
      | (go_split_ands; go_at_call 105; (with_reducible refine (hC0.call _ _ r1 0 0 rfl J1.out).mono ?_); rintro e w6 ⟨rfl, b1⟩; have hC1 := hC0.after (by omega) (by omega) HV.out b1)
      | (go_split_ands; go_at_call 105; (with_reducible refine (hC1.call _ _ r2 0 0 rfl J2.out).mono ?_); rintro e w7 ⟨rfl, b2⟩; have hC2 := hC1.after (by omega) (by omega) HV.out b2))
  have hq := hC2.hq
  have HC2 := Lib.hid hC2
  clear hC0 hC1 hC2 b1 b2 k1 k2 k3 k4
  go_wp2_with (go_at_call 60; refine (J3.out _ HC2.out.v).mono ?_; rintro e w8 ⟨rfl, b⟩; have B8 := Lib.hid (bt (bt B.out HC2.out.bl) b); clear b)
  go_ret2
  exact ⟨rfl, B8.out⟩
/-- How Compare answers. -/
def twK (l m : List UInt8) : Int := if twC comC l m = 0 then cmpQ (qv l) (qv m) else 0
theorem rcompare_any (s t : ByteArray) (hs : s.size ≤ 1048576) (ht : t.size ≤ 1048576) (w : World) (hv : VarR w) :
    Calls Tryz.prog 28 #[.string s, .string t] w (CmE (twK s.data.toList t.data.toList) (twC comC s.data.toList t.data.toList) w) := by
  unfold twK
  rcases text_cases s with h1 | ⟨a, rfl, ha⟩
  · rw [twC_l h1, if_neg h1]
    exact compare_parse _ _ _ _ _ _ _ h1 w (parseTwo_one s t w hv _ _ _ h1 (fun W hW => parse_e s hs h1 W hW))
  rcases text_cases t with h2 | ⟨b, rfl, hb⟩
  · rw [twC_r (rq_chk ha) h2, if_neg h2]
    exact compare_parse _ _ _ _ _ _ _ h2 w (parseTwo_two _ t w hv _ _ _ _ _ h2 (fun W hW => parse_q a ha W hW) (fun W hW => parse_e t ht h2 W hW))
  rw [twC_rq ha hb, qv_rq, qv_rq]
  have HT := parseTwo_ok (rq a) (rq b) w hv _ _ _ _ (fun W hW => parse_q a ha W hW) (fun W hW => parse_q b hb W hW)
  have H1 := fun W hW => mul_lims ha.1 hb.2 _ _ rfl rfl _ _ rfl rfl W hW
  have H2 := fun W hW => mul_lims hb.1 ha.2 _ _ rfl rfl _ _ rfl rfl W hW
  cases h1 : LB (a.num * (b.den : Int)) <;> cases h2 : LB (b.num * (a.den : Int))
  all_goals
    rw [h1] at H1
    rw [h2] at H2
    simp only [if_true, Bool.false_eq_true, if_false] at H1 H2
  case true.true =>
    have e : comC a b = 0 := by unfold comC; rw [h1, h2]; rfl
    rw [e, if_pos rfl]
    exact compare_ok _ _ _ _ _ _ _ _ _ w hv.t HT H1 H2 (fun W hW => compare_rep (LB_true.1 h1) (LB_true.1 h2) (cmpZ_rat a b) _ _ rfl rfl W hW)
  all_goals
    have e : comC a b = 14 := by unfold comC; rw [h1, h2]; rfl
    rw [e, if_neg (by decide)]
    exact compare_err _ _ _ _ _ _ _ _ _ _ 14 rfl (by decide) w hv.t HT H1 H2
end Go.Proofs.YtalnfbgaiegicaaGreatDoor

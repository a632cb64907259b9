/- Joined: RatAa, RatAb. -/
import Derived.Test.YtpgfadkkfofhcaaGreatDoorRatW
import Derived.Test.YtpgfadkkfofhcaaGreatDoorRatG
/- The walks of layer 2: Check, Add, Sub, Mul, Div, Compare on texts. -/
namespace Go.Proofs.YtpgfadkkfofhcaaGreatDoor
open Go Go.RowKit

theorem rq_size {q : Rat} (h : Sml q) : (rq q).size ≤ 2003 := by
  have h1 := len_of_chk (chk_of_abs h.1)
  have h2 := len_of_chk (chk_of_abs h.2)
  rw [Lib.size_eq, rq_data]
  unfold txtL
  split <;> simp <;> omega
theorem parse_q (q : Rat) (h : Sml q) (w : World) (hv : VarR w) :
    Calls Tryz.prog 81 #[.string (rq q)] w (PrsR (rep q.num) (rep (q.den : Int)) 0 w) := by
  have hp := parse_rat (rq q) (by have := rq_size h; omega) w hv
  obtain ⟨p1, p2⟩ := parS_ok (rq_chk h)
  rw [p1, p2, rq_chk h, rq_nB, rq_dB] at hp
  exact hp
theorem parse_e (s : ByteArray) (hs : s.size ≤ 1048576) (h : ¬ chkR s.data.toList = 0) (w : World) (hv : VarR w) :
    Calls Tryz.prog 81 #[.string s] w (PrsR ⟨#[]⟩ ⟨#[]⟩ (chkR s.data.toList) w) := by
  have hp := parse_rat s hs w hv
  obtain ⟨p1, p2⟩ := parS_err rfl h
  rw [p1, p2] at hp
  exact hp
theorem text_q (q : Rat) (h : Sml q) (w : World) :
    Calls Tryz.prog 54 #[.agg #[.string (rep q.num), .string (rep (q.den : Int))]] w (StrR (rq q) w) := by
  have h1 := len_of_chk (chk_of_abs h.1)
  have h2 := len_of_chk (chk_of_abs h.2)
  exact rtext_is (rep q.num) (rep (q.den : Int)) _ _ (rep_data _) (rep_data _) (by omega) (by omega) w
theorem addC_sml {a b : Rat} (h : addC a b = 0) : Sml (a + b) := (addC_ok h).2.2.2.2
theorem subC_sml {a b : Rat} (h : subC a b = 0) : Sml (a - b) := (subC_ok h).2.2.2.2
theorem mulC_sml {a b : Rat} (h : mulC a b = 0) : Sml (a * b) := (mulC_ok h).2.2
theorem divC_sml {a b : Rat} (h : divC a b = 0) : Sml (a / b) := (divC_ok h).2.2.2
/-- A text: wrong, or a rational's. -/
theorem text_cases (s : ByteArray) : ¬ chkR s.data.toList = 0 ∨ ∃ q, s = rq q ∧ Sml q := by
  by_cases h : chkR s.data.toList = 0
  · obtain ⟨q, h1, _, _, h2⟩ := rq_of h; exact .inr ⟨q, h1, h2⟩
  · exact .inl h
theorem radd_walk (s t R : ByteArray) (c : Int) (w : World)
    (H : Calls Tryz.prog 28 #[.string s, .string t, .func (.func 29) #[] #[]] w (StE R c w)) :
    Calls Tryz.prog 14 #[.string s, .string t] w (StE R c w) := by
  have J := Lib.hid H
  clear H
  go_enter Tryz.func14, Tryz.ntmps14
  go_wp2_with (go_at_call 28; refine J.out.mono ?_; rintro e w1 ⟨rfl, b⟩; have B := Lib.hid b; clear b)
  go_ret2
  exact ⟨rfl, B.out⟩
theorem radd_any (s t : ByteArray) (hs : s.size ≤ 1048576) (ht : t.size ≤ 1048576) (w : World) (hv : VarR w) :
    Calls Tryz.prog 14 #[.string s, .string t] w (StE (twT addC (· + ·) s.data.toList t.data.toList) (twC addC s.data.toList t.data.toList) w) := by
  refine radd_walk s t _ _ w ?_
  rcases text_cases s with h1 | ⟨a, rfl, ha⟩
  · unfold twT
    rw [twC_l h1, qT_err h1]
    exact calc_parse _ _ _ _ _ _ _ _ h1 w (parseTwo_one s t w hv _ _ _ h1 (fun W hW => parse_e s hs h1 W hW))
  rcases text_cases t with h2 | ⟨b, rfl, hb⟩
  · unfold twT
    rw [twC_r (rq_chk ha) h2, qT_err h2]
    exact calc_parse _ _ _ _ _ _ _ _ h2 w (parseTwo_two _ t w hv _ _ _ _ _ h2 (fun W hW => parse_q a ha W hW) (fun W hW => parse_e t ht h2 W hW))
  rw [twT_rq ha hb, twC_rq ha hb]
  have HT := parseTwo_ok (rq a) (rq b) w hv _ _ _ _ (fun W hW => parse_q a ha W hW) (fun W hW => parse_q b hb W hW)
  by_cases h0 : addC a b = 0
  · have HK := fun W hW => sum_q a b ha hb W hW
    rw [h0, nT_ok, dT_ok] at HK
    rw [h0, qT_ok]
    exact calc_sum_ok _ _ _ _ _ _ _ _ _ w hv.t HT HK (fun W => text_q _ (addC_sml h0) W)
  · rw [qT_err h0]
    exact calc_sum_err _ _ _ _ _ _ _ _ _ h0 w hv.t HT (fun W hW => sum_q a b ha hb W hW)
theorem rsub_walk (s t R : ByteArray) (c : Int) (w : World)
    (H : Calls Tryz.prog 28 #[.string s, .string t, .func (.func 62) #[] #[]] w (StE R c w)) :
    Calls Tryz.prog 39 #[.string s, .string t] w (StE R c w) := by
  have J := Lib.hid H
  clear H
  go_enter Tryz.func39, Tryz.ntmps39
  go_wp2_with (go_at_call 28; refine J.out.mono ?_; rintro e w1 ⟨rfl, b⟩; have B := Lib.hid b; clear b)
  go_ret2
  exact ⟨rfl, B.out⟩
theorem rsub_any (s t : ByteArray) (hs : s.size ≤ 1048576) (ht : t.size ≤ 1048576) (w : World) (hv : VarR w) :
    Calls Tryz.prog 39 #[.string s, .string t] w (StE (twT subC (· - ·) s.data.toList t.data.toList) (twC subC s.data.toList t.data.toList) w) := by
  refine rsub_walk s t _ _ w ?_
  rcases text_cases s with h1 | ⟨a, rfl, ha⟩
  · unfold twT
    rw [twC_l h1, qT_err h1]
    exact calc_parse _ _ _ _ _ _ _ _ h1 w (parseTwo_one s t w hv _ _ _ h1 (fun W hW => parse_e s hs h1 W hW))
  rcases text_cases t with h2 | ⟨b, rfl, hb⟩
  · unfold twT
    rw [twC_r (rq_chk ha) h2, qT_err h2]
    exact calc_parse _ _ _ _ _ _ _ _ h2 w (parseTwo_two _ t w hv _ _ _ _ _ h2 (fun W hW => parse_q a ha W hW) (fun W hW => parse_e t ht h2 W hW))
  rw [twT_rq ha hb, twC_rq ha hb]
  have HT := parseTwo_ok (rq a) (rq b) w hv _ _ _ _ (fun W hW => parse_q a ha W hW) (fun W hW => parse_q b hb W hW)
  by_cases h0 : subC a b = 0
  · have HK := fun W hW => difference_q a b ha hb W hW
    rw [h0, nT_ok, dT_ok] at HK
    rw [h0, qT_ok]
    exact calc_difference_ok _ _ _ _ _ _ _ _ _ w hv.t HT HK (fun W => text_q _ (subC_sml h0) W)
  · rw [qT_err h0]
    exact calc_difference_err _ _ _ _ _ _ _ _ _ h0 w hv.t HT (fun W hW => difference_q a b ha hb W hW)
end Go.Proofs.YtpgfadkkfofhcaaGreatDoor
/- The walks of layer 2: Compare. -/
namespace Go.Proofs.YtpgfadkkfofhcaaGreatDoor
open Go Go.RowKit

def CmE (r c : Int) (w : World) (e : Ending) (w' : World) : Prop := e = .returned (.tuple #[.int .i64 r, .int .i64 c]) ∧ Below w.heap.size w w'
/-- Four blocks that Compare lays: both arguments, the kept error, the closure's variable. -/
theorem rows4c (w : World) (a b c d : Value) (t te tp : TypeId) (hv : VarT w) {w5 : World}
    (h5 : ((((w.alloc (.cells #[a, b] t (0, 0))).alloc (.cells #[c, d] t (0, 0))).alloc (.cells #[.int .i64 0] te (0, 0))).alloc (.cells #[.pointer (some ⟨w.heap.size + 1 + 1, 0, none⟩)] tp (0, 0))) = w5) :
    Clo w (w.heap.size + 1 + 1 + 1) (w.heap.size + 1 + 1) 0 w5 ∧
    w5.cell? ⟨w.heap.size, 0, none⟩ = some a ∧ w5.cell? ⟨w.heap.size, 1, none⟩ = some b ∧ w5.cell? ⟨w.heap.size + 1, 0, none⟩ = some c ∧ w5.cell? ⟨w.heap.size + 1, 1, none⟩ = some d := by
  have hh : w5.heap = ((((w.heap.push (.cells #[a, b] t (0, 0))).push (.cells #[c, d] t (0, 0))).push (.cells #[.int .i64 0] te (0, 0))).push (.cells #[.pointer (some ⟨w.heap.size + 1 + 1, 0, none⟩)] tp (0, 0))) := by subst h5; rfl
  have B : Below w.heap.size w w5 := by
    subst h5
    exact ((((Below.refl _ w).alloc (Nat.le_refl _) _).alloc (by simp) _).alloc (by simp; omega) _).alloc (by simp; omega) _
  clear h5
  have g0 : w5.heap[w.heap.size]? = some (.cells #[a, b] t (0, 0)) := by
    rw [hh]; simp only [Array.getElem?_push, Array.size_push]
    rw [if_neg (by omega), if_neg (by omega), if_neg (by omega), if_pos trivial]
  have g1 : w5.heap[w.heap.size + 1]? = some (.cells #[c, d] t (0, 0)) := by
    rw [hh]; simp only [Array.getElem?_push, Array.size_push]
    rw [if_neg (by omega), if_neg (by omega), if_pos trivial]
  have g3 : w5.heap[w.heap.size + 1 + 1]? = some (.cells #[.int .i64 0] te (0, 0)) := by
    rw [hh]; simp only [Array.getElem?_push, Array.size_push]
    rw [if_neg (by omega), if_pos trivial]
  have g4 : w5.heap[w.heap.size + 1 + 1 + 1]? = some (.cells #[.pointer (some ⟨w.heap.size + 1 + 1, 0, none⟩)] tp (0, 0)) := by
    rw [hh]; simp only [Array.getElem?_push, Array.size_push]
    rw [if_pos trivial]
  clear hh
  obtain ⟨k1, k2, _, _⟩ := row2 g0
  obtain ⟨k3, k4, _, _⟩ := row2 g1
  refine ⟨⟨B, hv.below B, ?_, ?_, ?_⟩, k1, k2, k3, k4⟩
  · simp only [World.cell?, g4]; rfl
  · simp only [World.cell?, g3]; rfl
  · simp only [World.frozen?, g3]; rfl
/-- How Compare answers. -/
def twK (l m : List UInt8) : Int := if twC comC l m = 0 then cmpQ (qv l) (qv m) else 0
end Go.Proofs.YtpgfadkkfofhcaaGreatDoor

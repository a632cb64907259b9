/- The walks of layer 2: what the laws share: op, fits, the examples. -/
import Derived.Test.YtgjhgkglfflmjaaGreatDoorRatAe
namespace Go.Proofs.YtgjhgkglfflmjaaGreatDoor
open Go Go.RowKit

/-- All strings are canonical rationals of at most n bytes. -/
def fitR (n : Nat) (ss : List ByteArray) : Bool := ss.all fun s => decide (s.size ≤ n) && decide (chkR s.data.toList = 0)
theorem fitR_next {n k : Nat} {ss : List ByteArray} (h : k < ss.length) (ha : fitR n (ss.take k) = true) (h1 : ss[k].size ≤ n) (h2 : chkR ss[k].data.toList = 0) : fitR n (ss.take (k + 1)) = true := by
  rw [take_snoc ss k h]
  unfold fitR at ha ⊢
  rw [List.all_append, ha]
  simp [h1, h2]
theorem fitR_not {n k : Nat} {ss : List ByteArray} (h : k < ss.length) (h1 : ¬ (ss[k].size ≤ n ∧ chkR ss[k].data.toList = 0)) : fitR n ss = false := by
  unfold fitR
  rw [List.all_eq_false]
  refine ⟨ss[k], List.getElem_mem h, ?_⟩
  simpa using h1

set_option maxRecDepth 100000 in
set_option maxHeartbeats 1600000 in
theorem rfits_any (n : Nat) (hn : n ≤ 1000000) (A : Option Addr) (c : Nat) (ss : List ByteArray) (w : World) (hA : SlA Value.string w A ss) (hs : ss.length ≤ 1000000) :
    Calls Tryz.prog 34 #[.int .i64 n, .slice A ss.length c] w fun e w' => e = .returned (.bool (fitR n ss)) ∧ Below w.heap.size w w' := by
  go_enter Tryz.func34, Tryz.ntmps34
  go_wp2
  go_loopw [5] (fun i wr => ∃ k : Nat, k ≤ ss.length ∧ i = .int .i64 k ∧ Hid (fitR n (ss.take k) = true) ∧ Below w.heap.size w wr) (fun i _ => ss.length - (intOf i).toNat)
  case atStart => exact ⟨0, Nat.zero_le _, rfl, rfl, Below.refl _ _⟩
  case round =>
    obtain ⟨k, hk, rfl, hfit, hbel⟩ := hrel
    by_cases hlt : k < ss.length
    · obtain ⟨b, o, rfl, _, hc⟩ := (hA.below hbel).get hlt
      have HN := Lib.hid (fun h1 h2 => fitR_next hlt hfit.out h1 h2)
      have HX := Lib.hid (fun h1 => fitR_not (n := n) hlt h1)
      generalize ss[k] = x at *
      by_cases hx : x.size ≤ n
      · have HC := Lib.hid (fun W => refRCheck_any x (by omega) W)
        by_cases h0 : chkR x.data.toList = 0
        · have HN2 := Lib.hid (HN.out hx h0)
          rw [h0] at HC
          have hx' : ¬ (n : Int) < (x.size : Int) := by omega
          clear hA HX HN h0 hfit hx
          go_wp2_with (go_at_call 27; refine (HC.out _).mono ?_; rintro e w1 ⟨rfl, hb1⟩)
          go_roundw
          case rel => exact ⟨k + 1, by omega, by go_num, HN2, hbel.trans (hb1.mono hbel.size)⟩
          case measure => simp [intOf]; omega
        · have HX2 := Lib.hid (HX.out (fun h => h0 h.2))
          obtain ⟨z, hz⟩ : ∃ z, chkR x.data.toList = z := ⟨_, rfl⟩
          rw [hz] at HC h0
          have h1 : (z == 0) = false := by rw [beq_eq_false_iff_ne]; exact h0
          have hx' : ¬ (n : Int) < (x.size : Int) := by omega
          clear hA HX HN h0 hfit hz hx
          go_wp2_with (go_at_call 27; refine (HC.out _).mono ?_; rintro e w1 ⟨rfl, hb1⟩)
          go_ret
          exact ⟨ret_bool HX2.out.symm, hbel.trans (hb1.mono hbel.size)⟩
      · have HX2 := Lib.hid (HX.out (fun h => hx h.1))
        have hx' : (n : Int) < (x.size : Int) := by omega
        clear hA HX HN hfit hx
        go_wp2
        go_ret
        exact ⟨ret_bool HX2.out.symm, hbel⟩
    · obtain rfl : k = ss.length := by omega
      have HF : Hid (fitR n ss = true) := by have := hfit.out; rwa [List.take_of_length_le (Nat.le_refl _)] at this
      clear hfit
      go_wp2
      go_ret
      exact ⟨ret_bool HF.out.symm, hbel⟩
theorem rfits_one (n : Nat) (hn : n ≤ 1000000) (s : ByteArray) (b : Bool) (hb : fitR n [s] = b) (w : World) (ty : TypeId) :
    Calls Tryz.prog 34 #[.int .i64 n, .slice (some ⟨w.heap.size, 0, none⟩) 1 1] (w.alloc (.cells #[.string s] ty)) fun e w' => e = .returned (.bool b) ∧ Below (w.alloc (.cells #[.string s] ty)).heap.size (w.alloc (.cells #[.string s] ty)) w' := by
  subst hb
  exact rfits_any n hn (some ⟨w.heap.size, 0, none⟩) 1 [s] (w.alloc (.cells #[.string s] ty)) (SlA.of_cells (heap_alloc_new w _) rfl) (by simp)
theorem rfits_three (n : Nat) (hn : n ≤ 1000000) (s t u : ByteArray) (b : Bool) (hb : fitR n [s, t, u] = b) (w : World) (ty : TypeId) :
    Calls Tryz.prog 34 #[.int .i64 n, .slice (some ⟨w.heap.size, 0, none⟩) 3 3] (w.alloc (.cells #[.string s, .string t, .string u] ty)) fun e w' => e = .returned (.bool b) ∧ Below (w.alloc (.cells #[.string s, .string t, .string u] ty)).heap.size (w.alloc (.cells #[.string s, .string t, .string u] ty)) w' := by
  subst hb
  exact rfits_any n hn (some ⟨w.heap.size, 0, none⟩) 3 [s, t, u] (w.alloc (.cells #[.string s, .string t, .string u] ty)) (SlA.of_cells (heap_alloc_new w _) rfl) (by simp)
theorem rfit_three {n : Nat} {s t u : ByteArray} (h : fitR n [s, t, u] = true) : (s.size ≤ n ∧ chkR s.data.toList = 0) ∧ (t.size ≤ n ∧ chkR t.data.toList = 0) ∧ (u.size ≤ n ∧ chkR u.data.toList = 0) := by
  simpa [fitR, and_assoc] using h
theorem rfit_one {n : Nat} {s : ByteArray} (h : fitR n [s] = true) : s.size ≤ n ∧ chkR s.data.toList = 0 := by
  simpa [fitR] using h
set_option maxRecDepth 100000 in
set_option maxHeartbeats 1600000 in
theorem op_radd (s t R : ByteArray) (c : Int) (hR : ¬ c = 0 → R = ⟨#[]⟩) (w : World)
    (H : Calls Tryz.prog 14 #[.string s, .string t] w (StE R c w)) :
    Calls Tryz.prog 35 #[.func (.func 14) #[] #[], .string s, .string t] w (StrR R w) := by
  have J := Lib.hid H
  clear H
  by_cases h0 : c = 0
  · subst h0
    clear hR
    go_enter Tryz.func35, Tryz.ntmps35
    go_wp2_with (go_at_call 14; refine J.out.mono ?_; rintro e w1 ⟨rfl, b⟩; have B := Lib.hid b; clear b)
    go_ret
    exact ⟨rfl, B.out⟩
  · obtain rfl := hR h0
    have h2 : (c == 0) = false := by rw [beq_eq_false_iff_ne]; exact h0
    clear hR h0
    go_enter Tryz.func35, Tryz.ntmps35
    go_wp2_with (go_at_call 14; refine J.out.mono ?_; rintro e w1 ⟨rfl, b⟩; have B := Lib.hid b; clear b)
    go_ret
    exact ⟨rfl, B.out⟩
/-- The operation on two rationals, its result known. -/
theorem radd_rq {a b c : Rat} (ha : Sml a) (hb : Sml b) (h0 : addC a b = 0) (hc : a + b = c) (s t r : ByteArray) (hs : rq a = s) (ht : rq b = t) (hr : rq c = r) (w : World) (hv : VarR w) :
    Calls Tryz.prog 14 #[.string s, .string t] w (StE r 0 w) := by
  subst hc; subst hs; subst ht; subst hr
  have h := radd_any (rq a) (rq b) (by have := rq_size ha; omega) (by have := rq_size hb; omega) w hv
  rw [twT_rq ha hb, twC_rq ha hb, h0, qT_ok] at h
  exact h
theorem opradd_rq {a b c : Rat} (ha : Sml a) (hb : Sml b) (h0 : addC a b = 0) (hc : a + b = c) (s t r : ByteArray) (hs : rq a = s) (ht : rq b = t) (hr : rq c = r) (w : World) (hv : VarR w) :
    Calls Tryz.prog 35 #[.func (.func 14) #[] #[], .string s, .string t] w (StrR r w) :=
  op_radd s t r 0 (fun h => absurd rfl h) w (radd_rq ha hb h0 hc s t r hs ht hr w hv)
set_option maxRecDepth 100000 in
set_option maxHeartbeats 1600000 in
theorem op_rsub (s t R : ByteArray) (c : Int) (hR : ¬ c = 0 → R = ⟨#[]⟩) (w : World)
    (H : Calls Tryz.prog 25 #[.string s, .string t] w (StE R c w)) :
    Calls Tryz.prog 35 #[.func (.func 25) #[] #[], .string s, .string t] w (StrR R w) := by
  have J := Lib.hid H
  clear H
  by_cases h0 : c = 0
  · subst h0
    clear hR
    go_enter Tryz.func35, Tryz.ntmps35
    go_wp2_with (go_at_call 25; refine J.out.mono ?_; rintro e w1 ⟨rfl, b⟩; have B := Lib.hid b; clear b)
    go_ret
    exact ⟨rfl, B.out⟩
  · obtain rfl := hR h0
    have h2 : (c == 0) = false := by rw [beq_eq_false_iff_ne]; exact h0
    clear hR h0
    go_enter Tryz.func35, Tryz.ntmps35
    go_wp2_with (go_at_call 25; refine J.out.mono ?_; rintro e w1 ⟨rfl, b⟩; have B := Lib.hid b; clear b)
    go_ret
    exact ⟨rfl, B.out⟩
/-- The operation on two rationals, its result known. -/
theorem rsub_rq {a b c : Rat} (ha : Sml a) (hb : Sml b) (h0 : subC a b = 0) (hc : a - b = c) (s t r : ByteArray) (hs : rq a = s) (ht : rq b = t) (hr : rq c = r) (w : World) (hv : VarR w) :
    Calls Tryz.prog 25 #[.string s, .string t] w (StE r 0 w) := by
  subst hc; subst hs; subst ht; subst hr
  have h := rsub_any (rq a) (rq b) (by have := rq_size ha; omega) (by have := rq_size hb; omega) w hv
  rw [twT_rq ha hb, twC_rq ha hb, h0, qT_ok] at h
  exact h
theorem oprsub_rq {a b c : Rat} (ha : Sml a) (hb : Sml b) (h0 : subC a b = 0) (hc : a - b = c) (s t r : ByteArray) (hs : rq a = s) (ht : rq b = t) (hr : rq c = r) (w : World) (hv : VarR w) :
    Calls Tryz.prog 35 #[.func (.func 25) #[] #[], .string s, .string t] w (StrR r w) :=
  op_rsub s t r 0 (fun h => absurd rfl h) w (rsub_rq ha hb h0 hc s t r hs ht hr w hv)
set_option maxRecDepth 100000 in
set_option maxHeartbeats 1600000 in
theorem op_rmul (s t R : ByteArray) (c : Int) (hR : ¬ c = 0 → R = ⟨#[]⟩) (w : World)
    (H : Calls Tryz.prog 13 #[.string s, .string t] w (StE R c w)) :
    Calls Tryz.prog 35 #[.func (.func 13) #[] #[], .string s, .string t] w (StrR R w) := by
  have J := Lib.hid H
  clear H
  by_cases h0 : c = 0
  · subst h0
    clear hR
    go_enter Tryz.func35, Tryz.ntmps35
    go_wp2_with (go_at_call 13; refine J.out.mono ?_; rintro e w1 ⟨rfl, b⟩; have B := Lib.hid b; clear b)
    go_ret
    exact ⟨rfl, B.out⟩
  · obtain rfl := hR h0
    have h2 : (c == 0) = false := by rw [beq_eq_false_iff_ne]; exact h0
    clear hR h0
    go_enter Tryz.func35, Tryz.ntmps35
    go_wp2_with (go_at_call 13; refine J.out.mono ?_; rintro e w1 ⟨rfl, b⟩; have B := Lib.hid b; clear b)
    go_ret
    exact ⟨rfl, B.out⟩
/-- The operation on two rationals, its result known. -/
theorem rmul_rq {a b c : Rat} (ha : Sml a) (hb : Sml b) (h0 : mulC a b = 0) (hc : a * b = c) (s t r : ByteArray) (hs : rq a = s) (ht : rq b = t) (hr : rq c = r) (w : World) (hv : VarR w) :
    Calls Tryz.prog 13 #[.string s, .string t] w (StE r 0 w) := by
  subst hc; subst hs; subst ht; subst hr
  have h := rmul_any (rq a) (rq b) (by have := rq_size ha; omega) (by have := rq_size hb; omega) w hv
  rw [twT_rq ha hb, twC_rq ha hb, h0, qT_ok] at h
  exact h
theorem oprmul_rq {a b c : Rat} (ha : Sml a) (hb : Sml b) (h0 : mulC a b = 0) (hc : a * b = c) (s t r : ByteArray) (hs : rq a = s) (ht : rq b = t) (hr : rq c = r) (w : World) (hv : VarR w) :
    Calls Tryz.prog 35 #[.func (.func 13) #[] #[], .string s, .string t] w (StrR r w) :=
  op_rmul s t r 0 (fun h => absurd rfl h) w (rmul_rq ha hb h0 hc s t r hs ht hr w hv)
set_option maxRecDepth 100000 in
set_option maxHeartbeats 1600000 in
theorem op_rdiv (s t R : ByteArray) (c : Int) (hR : ¬ c = 0 → R = ⟨#[]⟩) (w : World)
    (H : Calls Tryz.prog 16 #[.string s, .string t] w (StE R c w)) :
    Calls Tryz.prog 35 #[.func (.func 16) #[] #[], .string s, .string t] w (StrR R w) := by
  have J := Lib.hid H
  clear H
  by_cases h0 : c = 0
  · subst h0
    clear hR
    go_enter Tryz.func35, Tryz.ntmps35
    go_wp2_with (go_at_call 16; refine J.out.mono ?_; rintro e w1 ⟨rfl, b⟩; have B := Lib.hid b; clear b)
    go_ret
    exact ⟨rfl, B.out⟩
  · obtain rfl := hR h0
    have h2 : (c == 0) = false := by rw [beq_eq_false_iff_ne]; exact h0
    clear hR h0
    go_enter Tryz.func35, Tryz.ntmps35
    go_wp2_with (go_at_call 16; refine J.out.mono ?_; rintro e w1 ⟨rfl, b⟩; have B := Lib.hid b; clear b)
    go_ret
    exact ⟨rfl, B.out⟩
/-- The operation on two rationals, its result known. -/
theorem rdiv_rq {a b c : Rat} (ha : Sml a) (hb : Sml b) (h0 : divC a b = 0) (hc : a / b = c) (s t r : ByteArray) (hs : rq a = s) (ht : rq b = t) (hr : rq c = r) (w : World) (hv : VarR w) :
    Calls Tryz.prog 16 #[.string s, .string t] w (StE r 0 w) := by
  subst hc; subst hs; subst ht; subst hr
  have h := rdiv_any (rq a) (rq b) (by have := rq_size ha; omega) (by have := rq_size hb; omega) w hv
  rw [twT_rq ha hb, twC_rq ha hb, h0, qT_ok] at h
  exact h
theorem oprdiv_rq {a b c : Rat} (ha : Sml a) (hb : Sml b) (h0 : divC a b = 0) (hc : a / b = c) (s t r : ByteArray) (hs : rq a = s) (ht : rq b = t) (hr : rq c = r) (w : World) (hv : VarR w) :
    Calls Tryz.prog 35 #[.func (.func 16) #[] #[], .string s, .string t] w (StrR r w) :=
  op_rdiv s t r 0 (fun h => absurd rfl h) w (rdiv_rq ha hb h0 hc s t r hs ht hr w hv)
theorem rcompare_rq {a b : Rat} {c : Int} (ha : Sml a) (hb : Sml b) (h0 : comC a b = 0) (hc : cmpQ a b = c) (s t : ByteArray) (hs : rq a = s) (ht : rq b = t) (w : World) (hv : VarR w) :
    Calls Tryz.prog 15 #[.string s, .string t] w (CmE c 0 w) := by
  subst hc; subst hs; subst ht
  have h := rcompare_any (rq a) (rq b) (by have := rq_size ha; omega) (by have := rq_size hb; omega) w hv
  unfold twK at h
  rw [twC_rq ha hb, h0, if_pos rfl, qv_rq, qv_rq] at h
  exact h
theorem al_add (w : World) (hv : VarR w) : Calls Tryz.prog 14 #[.string ⟨#[49, 47, 54]⟩, .string ⟨#[49, 47, 51]⟩] w (StE ⟨#[49, 47, 50]⟩ 0 w) := by
  have h := radd_any ⟨#[49, 47, 54]⟩ ⟨#[49, 47, 51]⟩ (by decide) (by decide) w hv
  rw [show twC addC (⟨#[49, 47, 54]⟩ : ByteArray).data.toList (⟨#[49, 47, 51]⟩ : ByteArray).data.toList = 0 by decide +kernel, show twT addC (· + ·) (⟨#[49, 47, 54]⟩ : ByteArray).data.toList (⟨#[49, 47, 51]⟩ : ByteArray).data.toList = ⟨#[49, 47, 50]⟩ by decide +kernel] at h
  exact h
theorem al_div (w : World) (hv : VarR w) : Calls Tryz.prog 16 #[.string ⟨#[45, 50]⟩, .string ⟨#[52, 47, 51]⟩] w (StE ⟨#[45, 51, 47, 50]⟩ 0 w) := by
  have h := rdiv_any ⟨#[45, 50]⟩ ⟨#[52, 47, 51]⟩ (by decide) (by decide) w hv
  rw [show twC divC (⟨#[45, 50]⟩ : ByteArray).data.toList (⟨#[52, 47, 51]⟩ : ByteArray).data.toList = 0 by decide +kernel, show twT divC (· / ·) (⟨#[45, 50]⟩ : ByteArray).data.toList (⟨#[52, 47, 51]⟩ : ByteArray).data.toList = ⟨#[45, 51, 47, 50]⟩ by decide +kernel] at h
  exact h
theorem al_r00 (w : World) (hv : VarR w) : Calls Tryz.prog 21 #[.string ⟨#[53, 47, 50]⟩, .int .u8 0] w (StE ⟨#[50]⟩ 0 w) := by
  have h := Round_any ⟨#[53, 47, 50]⟩ (by decide) 0 (by decide) (by decide) w hv
  rw [show roC 0 (⟨#[53, 47, 50]⟩ : ByteArray).data.toList = 0 by decide +kernel, show roT 0 (⟨#[53, 47, 50]⟩ : ByteArray).data.toList = ⟨#[50]⟩ by decide +kernel] at h
  exact h
theorem al_r01 (w : World) (hv : VarR w) : Calls Tryz.prog 21 #[.string ⟨#[53, 47, 50]⟩, .int .u8 1] w (StE ⟨#[51]⟩ 0 w) := by
  have h := Round_any ⟨#[53, 47, 50]⟩ (by decide) 1 (by decide) (by decide) w hv
  rw [show roC 1 (⟨#[53, 47, 50]⟩ : ByteArray).data.toList = 0 by decide +kernel, show roT 1 (⟨#[53, 47, 50]⟩ : ByteArray).data.toList = ⟨#[51]⟩ by decide +kernel] at h
  exact h
theorem al_r02 (w : World) (hv : VarR w) : Calls Tryz.prog 21 #[.string ⟨#[53, 47, 50]⟩, .int .u8 2] w (StE ⟨#[51]⟩ 0 w) := by
  have h := Round_any ⟨#[53, 47, 50]⟩ (by decide) 2 (by decide) (by decide) w hv
  rw [show roC 2 (⟨#[53, 47, 50]⟩ : ByteArray).data.toList = 0 by decide +kernel, show roT 2 (⟨#[53, 47, 50]⟩ : ByteArray).data.toList = ⟨#[51]⟩ by decide +kernel] at h
  exact h
theorem al_r03 (w : World) (hv : VarR w) : Calls Tryz.prog 21 #[.string ⟨#[53, 47, 50]⟩, .int .u8 3] w (StE ⟨#[50]⟩ 0 w) := by
  have h := Round_any ⟨#[53, 47, 50]⟩ (by decide) 3 (by decide) (by decide) w hv
  rw [show roC 3 (⟨#[53, 47, 50]⟩ : ByteArray).data.toList = 0 by decide +kernel, show roT 3 (⟨#[53, 47, 50]⟩ : ByteArray).data.toList = ⟨#[50]⟩ by decide +kernel] at h
  exact h
theorem al_r04 (w : World) (hv : VarR w) : Calls Tryz.prog 21 #[.string ⟨#[53, 47, 50]⟩, .int .u8 4] w (StE ⟨#[50]⟩ 0 w) := by
  have h := Round_any ⟨#[53, 47, 50]⟩ (by decide) 4 (by decide) (by decide) w hv
  rw [show roC 4 (⟨#[53, 47, 50]⟩ : ByteArray).data.toList = 0 by decide +kernel, show roT 4 (⟨#[53, 47, 50]⟩ : ByteArray).data.toList = ⟨#[50]⟩ by decide +kernel] at h
  exact h
theorem al_r10 (w : World) (hv : VarR w) : Calls Tryz.prog 21 #[.string ⟨#[45, 53, 47, 50]⟩, .int .u8 0] w (StE ⟨#[45, 50]⟩ 0 w) := by
  have h := Round_any ⟨#[45, 53, 47, 50]⟩ (by decide) 0 (by decide) (by decide) w hv
  rw [show roC 0 (⟨#[45, 53, 47, 50]⟩ : ByteArray).data.toList = 0 by decide +kernel, show roT 0 (⟨#[45, 53, 47, 50]⟩ : ByteArray).data.toList = ⟨#[45, 50]⟩ by decide +kernel] at h
  exact h
theorem al_r11 (w : World) (hv : VarR w) : Calls Tryz.prog 21 #[.string ⟨#[45, 53, 47, 50]⟩, .int .u8 1] w (StE ⟨#[45, 51]⟩ 0 w) := by
  have h := Round_any ⟨#[45, 53, 47, 50]⟩ (by decide) 1 (by decide) (by decide) w hv
  rw [show roC 1 (⟨#[45, 53, 47, 50]⟩ : ByteArray).data.toList = 0 by decide +kernel, show roT 1 (⟨#[45, 53, 47, 50]⟩ : ByteArray).data.toList = ⟨#[45, 51]⟩ by decide +kernel] at h
  exact h
theorem al_r12 (w : World) (hv : VarR w) : Calls Tryz.prog 21 #[.string ⟨#[45, 53, 47, 50]⟩, .int .u8 2] w (StE ⟨#[45, 51]⟩ 0 w) := by
  have h := Round_any ⟨#[45, 53, 47, 50]⟩ (by decide) 2 (by decide) (by decide) w hv
  rw [show roC 2 (⟨#[45, 53, 47, 50]⟩ : ByteArray).data.toList = 0 by decide +kernel, show roT 2 (⟨#[45, 53, 47, 50]⟩ : ByteArray).data.toList = ⟨#[45, 51]⟩ by decide +kernel] at h
  exact h
theorem al_r13 (w : World) (hv : VarR w) : Calls Tryz.prog 21 #[.string ⟨#[45, 53, 47, 50]⟩, .int .u8 3] w (StE ⟨#[45, 50]⟩ 0 w) := by
  have h := Round_any ⟨#[45, 53, 47, 50]⟩ (by decide) 3 (by decide) (by decide) w hv
  rw [show roC 3 (⟨#[45, 53, 47, 50]⟩ : ByteArray).data.toList = 0 by decide +kernel, show roT 3 (⟨#[45, 53, 47, 50]⟩ : ByteArray).data.toList = ⟨#[45, 50]⟩ by decide +kernel] at h
  exact h
theorem al_r14 (w : World) (hv : VarR w) : Calls Tryz.prog 21 #[.string ⟨#[45, 53, 47, 50]⟩, .int .u8 4] w (StE ⟨#[45, 51]⟩ 0 w) := by
  have h := Round_any ⟨#[45, 53, 47, 50]⟩ (by decide) 4 (by decide) (by decide) w hv
  rw [show roC 4 (⟨#[45, 53, 47, 50]⟩ : ByteArray).data.toList = 0 by decide +kernel, show roT 4 (⟨#[45, 53, 47, 50]⟩ : ByteArray).data.toList = ⟨#[45, 51]⟩ by decide +kernel] at h
  exact h
set_option maxRecDepth 100000 in
set_option maxHeartbeats 3200000 in
theorem ralive_any (w : World) (hv : VarR w) : Calls Tryz.prog 22 #[] w fun e w' => e = .returned (.bool true) ∧ Below w.heap.size w w' := by
  have HA := Lib.hid al_add
  have HD := Lib.hid al_div
  have HV := Lib.hid hv
  clear hv
  go_enter Tryz.func22, Tryz.ntmps22
  go_wp2_with (first
    | (go_at_call 14; refine (HA.out _ HV.out).mono ?_; rintro e w1 ⟨rfl, b⟩; have B1 := Lib.hid b; clear b)
    | (go_at_call 16; refine (HD.out _ (HV.out.below B1.out)).mono ?_; rintro e w2 ⟨rfl, b⟩; have B2 := Lib.hid (bt B1.out b); clear b))
  have B3 := B2.out.alloc B2.out.size (.cells #[.string ⟨#[50]⟩, .string ⟨#[51]⟩, .string ⟨#[51]⟩, .string ⟨#[50]⟩, .string ⟨#[50]⟩, .string ⟨#[45, 50]⟩, .string ⟨#[45, 51]⟩, .string ⟨#[45, 51]⟩, .string ⟨#[45, 50]⟩, .string ⟨#[45, 51]⟩] 84)
  have R3 := Lib.hid (heap_alloc_new w2 (.cells #[.string ⟨#[50]⟩, .string ⟨#[51]⟩, .string ⟨#[51]⟩, .string ⟨#[50]⟩, .string ⟨#[50]⟩, .string ⟨#[45, 50]⟩, .string ⟨#[45, 51]⟩, .string ⟨#[45, 51]⟩, .string ⟨#[45, 50]⟩, .string ⟨#[45, 51]⟩] 84))
  go_loopw [6] (fun i wr => ∃ k : Nat, k ≤ 5 ∧ i = .int .i64 k ∧ Below w.heap.size w wr ∧ Hid (wr.heap[w2.heap.size]? = some (.cells #[.string ⟨#[50]⟩, .string ⟨#[51]⟩, .string ⟨#[51]⟩, .string ⟨#[50]⟩, .string ⟨#[50]⟩, .string ⟨#[45, 50]⟩, .string ⟨#[45, 51]⟩, .string ⟨#[45, 51]⟩, .string ⟨#[45, 50]⟩, .string ⟨#[45, 51]⟩] 84 (0, 0)))) (fun i _ => 5 - (intOf i).toNat)
  case atStart => exact ⟨0, by omega, rfl, B3, R3⟩
  case round =>
    obtain ⟨k, hk, rfl, hbel, hrow⟩ := hrel
    have HBel := Lib.hid hbel
    clear hbel B3 R3
    match k, hk with
    | 0, _ =>
      have H1 := Lib.hid al_r00
      have H2 := Lib.hid al_r10
      go_wp2_with (first
        | (go_at_call 21; (with_reducible refine (H1.out _ (HV.out.below HBel.out)).mono ?_); rintro e w3 ⟨rfl, b⟩; have C1 := Lib.hid (bt HBel.out b); have r1 := Lib.hid ((b.block _ (lt_of_block hrow.out)).trans hrow.out); clear b)
        | (go_at_call 21; (with_reducible refine (H2.out _ (HV.out.below C1.out)).mono ?_); rintro e w4 ⟨rfl, b⟩; have C2 := Lib.hid (bt C1.out b); have r2 := Lib.hid ((b.block _ (lt_of_block r1.out)).trans r1.out); have c1 : w4.cell? ⟨w2.heap.size, 0, none⟩ = some (.string ⟨#[50]⟩) := by rw [cell_of_row _ _ _ _ _ _ r2.out]; rfl
           have c2 : w4.cell? ⟨w2.heap.size, 5, none⟩ = some (.string ⟨#[45, 50]⟩) := by rw [cell_of_row _ _ _ _ _ _ r2.out]; rfl
           clear b))
      go_roundw
      case rel => exact ⟨1, by omega, rfl, C2.out, r2⟩
      case measure => simp [intOf]
    | 1, _ =>
      have H1 := Lib.hid al_r01
      have H2 := Lib.hid al_r11
      go_wp2_with (first
        | (go_at_call 21; (with_reducible refine (H1.out _ (HV.out.below HBel.out)).mono ?_); rintro e w3 ⟨rfl, b⟩; have C1 := Lib.hid (bt HBel.out b); have r1 := Lib.hid ((b.block _ (lt_of_block hrow.out)).trans hrow.out); clear b)
        | (go_at_call 21; (with_reducible refine (H2.out _ (HV.out.below C1.out)).mono ?_); rintro e w4 ⟨rfl, b⟩; have C2 := Lib.hid (bt C1.out b); have r2 := Lib.hid ((b.block _ (lt_of_block r1.out)).trans r1.out); have c1 : w4.cell? ⟨w2.heap.size, 1, none⟩ = some (.string ⟨#[51]⟩) := by rw [cell_of_row _ _ _ _ _ _ r2.out]; rfl
           have c2 : w4.cell? ⟨w2.heap.size, 6, none⟩ = some (.string ⟨#[45, 51]⟩) := by rw [cell_of_row _ _ _ _ _ _ r2.out]; rfl
           clear b))
      go_roundw
      case rel => exact ⟨2, by omega, rfl, C2.out, r2⟩
      case measure => simp [intOf]
    | 2, _ =>
      have H1 := Lib.hid al_r02
      have H2 := Lib.hid al_r12
      go_wp2_with (first
        | (go_at_call 21; (with_reducible refine (H1.out _ (HV.out.below HBel.out)).mono ?_); rintro e w3 ⟨rfl, b⟩; have C1 := Lib.hid (bt HBel.out b); have r1 := Lib.hid ((b.block _ (lt_of_block hrow.out)).trans hrow.out); clear b)
        | (go_at_call 21; (with_reducible refine (H2.out _ (HV.out.below C1.out)).mono ?_); rintro e w4 ⟨rfl, b⟩; have C2 := Lib.hid (bt C1.out b); have r2 := Lib.hid ((b.block _ (lt_of_block r1.out)).trans r1.out); have c1 : w4.cell? ⟨w2.heap.size, 2, none⟩ = some (.string ⟨#[51]⟩) := by rw [cell_of_row _ _ _ _ _ _ r2.out]; rfl
           have c2 : w4.cell? ⟨w2.heap.size, 7, none⟩ = some (.string ⟨#[45, 51]⟩) := by rw [cell_of_row _ _ _ _ _ _ r2.out]; rfl
           clear b))
      go_roundw
      case rel => exact ⟨3, by omega, rfl, C2.out, r2⟩
      case measure => simp [intOf]
    | 3, _ =>
      have H1 := Lib.hid al_r03
      have H2 := Lib.hid al_r13
      go_wp2_with (first
        | (go_at_call 21; (with_reducible refine (H1.out _ (HV.out.below HBel.out)).mono ?_); rintro e w3 ⟨rfl, b⟩; have C1 := Lib.hid (bt HBel.out b); have r1 := Lib.hid ((b.block _ (lt_of_block hrow.out)).trans hrow.out); clear b)
        | (go_at_call 21; (with_reducible refine (H2.out _ (HV.out.below C1.out)).mono ?_); rintro e w4 ⟨rfl, b⟩; have C2 := Lib.hid (bt C1.out b); have r2 := Lib.hid ((b.block _ (lt_of_block r1.out)).trans r1.out); have c1 : w4.cell? ⟨w2.heap.size, 3, none⟩ = some (.string ⟨#[50]⟩) := by rw [cell_of_row _ _ _ _ _ _ r2.out]; rfl
           have c2 : w4.cell? ⟨w2.heap.size, 8, none⟩ = some (.string ⟨#[45, 50]⟩) := by rw [cell_of_row _ _ _ _ _ _ r2.out]; rfl
           clear b))
      go_roundw
      case rel => exact ⟨4, by omega, rfl, C2.out, r2⟩
      case measure => simp [intOf]
    | 4, _ =>
      have H1 := Lib.hid al_r04
      have H2 := Lib.hid al_r14
      go_wp2_with (first
        | (go_at_call 21; (with_reducible refine (H1.out _ (HV.out.below HBel.out)).mono ?_); rintro e w3 ⟨rfl, b⟩; have C1 := Lib.hid (bt HBel.out b); have r1 := Lib.hid ((b.block _ (lt_of_block hrow.out)).trans hrow.out); clear b)
        | (go_at_call 21; (with_reducible refine (H2.out _ (HV.out.below C1.out)).mono ?_); rintro e w4 ⟨rfl, b⟩; have C2 := Lib.hid (bt C1.out b); have r2 := Lib.hid ((b.block _ (lt_of_block r1.out)).trans r1.out); have c1 : w4.cell? ⟨w2.heap.size, 4, none⟩ = some (.string ⟨#[50]⟩) := by rw [cell_of_row _ _ _ _ _ _ r2.out]; rfl
           have c2 : w4.cell? ⟨w2.heap.size, 9, none⟩ = some (.string ⟨#[45, 51]⟩) := by rw [cell_of_row _ _ _ _ _ _ r2.out]; rfl
           clear b))
      go_roundw
      case rel => exact ⟨5, by omega, rfl, C2.out, r2⟩
      case measure => simp [intOf]
    | 5, _ =>
      go_wp2
      go_ret
      exact ⟨rfl, HBel.out⟩
/-- n ones. -/
def one1 (n : Nat) : List UInt8 := List.replicate n 49
set_option maxRecDepth 100000 in
set_option maxHeartbeats 1600000 in
theorem ones_any (n : Nat) (hn : n ≤ 1000000) (w : World) : Calls Tryz.prog 12 #[.int .i64 n] w fun e w' => e = .returned (.string ⟨(one1 n).toArray⟩) ∧ Below w.heap.size w w' := by
  obtain ⟨i0, hi, hz0, hz1, hz2⟩ := info_parts Tryz.info5'
  go_enter Tryz.func12, Tryz.ntmps12
  go_wp2
  go_loopw [3, 4] (fun b i wr => ∃ k : Nat, k ≤ n ∧ i = .int .i64 k ∧ wr.ownsRow w.heap.size 5 1 b k (Lib.byteCells (one1 k)) ∧ Below w.heap.size w wr) (fun _ i _ => n - (intOf i).toNat)
  case atStart => exact ⟨0, Nat.zero_le _, rfl, World.ownsRow_nil _ _ _ _, Below.refl _ _⟩
  case round =>
    obtain ⟨k, hk, rfl, hown, hbel⟩ := hrel
    by_cases hlt : k < n
    · have hsz := hbel.size
      go_wp2_with (at_builtin; refine wpList_app1 hown _ rfl _ _ 63 rfl i0 (.int .u8 0) 1 Tryz.underlying63 hi hz0 hz1 hz2 rfl rfl rfl rfl (by unfold maxLen; omega) (by omega) (by omega) ?_; intro v' w' hown' hb')
      go_roundw
      case rel => exact ⟨k + 1, by omega, by go_num, by
        have := own_byte hown' (n := 49) rfl (by omega)
        rw [show one1 k ++ [UInt8.ofNat 49] = one1 (k + 1) by unfold one1; rw [List.replicate_succ']; rfl] at this
        exact this, hbel.trans hb'⟩
      case measure => simp [intOf]; omega
    · obtain rfl : k = n := by omega
      have HC := conv_own (P := Tryz.prog) hown 63 9 Tryz.underlying63 Tryz.underlying5 Tryz.underlying9
      clear hown
      go_wp2
      go_ret
      exact ⟨rfl, hbel⟩
end Go.Proofs.YtgjhgkglfflmjaaGreatDoor

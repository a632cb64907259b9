/- The walks of layer 2: calculate. -/
import Derived.Test.YtgjhgkglfflmjaaGreatDoorRatX
namespace Go.Proofs.YtgjhgkglfflmjaaGreatDoor
open Go Go.RowKit

theorem VarR.mono {w w' : World} (h : VarR w) (hb : Below w.heap.size w w') : VarR w' := h.below hb
set_option maxRecDepth 100000 in
set_option maxHeartbeats 1600000 in
theorem calc_parse (K : Nat) (s t a d a2 d2 : ByteArray) (c : Int) (h0 : ¬ c = 0) (w : World)
    (H : Calls Tryz.prog 42 #[.string s, .string t] w (TwoF a d a2 d2 c w)) :
    Calls Tryz.prog 39 #[.string s, .string t, .func (.func K) #[] #[]] w (StE ⟨#[]⟩ c w) := by
  have J := Lib.hid H
  have hz : (c == 0) = false := by rw [beq_eq_false_iff_ne]; exact h0
  clear H h0
  go_enter Tryz.func39, Tryz.ntmps39
  go_wp2_with (go_at_call 42; refine J.out.mono ?_; rintro e w1 ⟨rfl, b⟩; have B := Lib.hid b; have hs1 := b.size; clear b)
  go_ret2
  exact ⟨rfl, (B.out.alloc hs1 _).alloc (by simp; omega) _⟩
set_option maxRecDepth 100000 in
set_option maxHeartbeats 1600000 in
theorem calc_sum_err (s t a d a2 d2 N D : ByteArray) (c : Int) (h0 : ¬ c = 0) (w : World) (hv : VarT w)
    (H : Calls Tryz.prog 42 #[.string s, .string t] w (TwoF a d a2 d2 0 w))
    (HK : ∀ W, VarT W → Calls Tryz.prog 41 #[.agg #[.string a, .string d], .agg #[.string a2, .string d2]] W (PrsR N D c W)) :
    Calls Tryz.prog 39 #[.string s, .string t, .func (.func 41) #[] #[]] w (StE ⟨#[]⟩ c w) := by
  have J := Lib.hid H
  have JK := Lib.hid HK
  have HV := Lib.hid hv
  have hz : (c == 0) = false := by rw [beq_eq_false_iff_ne]; exact h0
  clear H HK h0 hv
  go_enter Tryz.func39, Tryz.ntmps39
  go_wp2_with (first
    | (go_at_call 42; refine J.out.mono ?_; rintro e w1 ⟨rfl, b⟩; have B1 := Lib.hid (fun o o' => (b.alloc b.size o).alloc (by simp; have := b.size; omega) o'); clear b)
    | (go_at_call 41; refine (JK.out _ (HV.out.below (B1.out _ _))).mono ?_; rintro e w2 ⟨rfl, b⟩; have B2 := Lib.hid (bt (B1.out (.cells #[.string a, .string d] 60) (.cells #[.string a2, .string d2] 60)) b); clear b))
  go_ret2
  exact ⟨rfl, B2.out.alloc B2.out.size _⟩
set_option maxRecDepth 100000 in
set_option maxHeartbeats 1600000 in
theorem calc_sum_ok (s t a d a2 d2 N D R : ByteArray) (w : World) (hv : VarT w)
    (H : Calls Tryz.prog 42 #[.string s, .string t] w (TwoF a d a2 d2 0 w))
    (HK : ∀ W, VarT W → Calls Tryz.prog 41 #[.agg #[.string a, .string d], .agg #[.string a2, .string d2]] W (PrsR N D 0 W))
    (HX : ∀ W, Calls Tryz.prog 48 #[.agg #[.string N, .string D]] W (StrR R W)) :
    Calls Tryz.prog 39 #[.string s, .string t, .func (.func 41) #[] #[]] w (StE R 0 w) := by
  have J := Lib.hid H
  have JK := Lib.hid HK
  have JX := Lib.hid HX
  have HV := Lib.hid hv
  clear H HK HX hv
  go_enter Tryz.func39, Tryz.ntmps39
  go_wp2_with (first
    | (go_at_call 42; refine J.out.mono ?_; rintro e w1 ⟨rfl, b⟩; have B1 := Lib.hid (fun o o' => (b.alloc b.size o).alloc (by simp; have := b.size; omega) o'); clear b)
    | (go_at_call 41; refine (JK.out _ (HV.out.below (B1.out _ _))).mono ?_; rintro e w2 ⟨rfl, b⟩; have B2 := Lib.hid (bt (B1.out (.cells #[.string a, .string d] 60) (.cells #[.string a2, .string d2] 60)) b); clear b)
    | (go_at_call 48; refine (JX.out _).mono ?_; rintro e w3 ⟨rfl, b⟩; have B3 := Lib.hid (bt (B2.out.alloc B2.out.size (.cells #[.string N, .string D] 60)) b); clear b))
  go_ret2
  exact ⟨rfl, B3.out⟩
set_option maxRecDepth 100000 in
set_option maxHeartbeats 1600000 in
theorem calc_difference_err (s t a d a2 d2 N D : ByteArray) (c : Int) (h0 : ¬ c = 0) (w : World) (hv : VarT w)
    (H : Calls Tryz.prog 42 #[.string s, .string t] w (TwoF a d a2 d2 0 w))
    (HK : ∀ W, VarT W → Calls Tryz.prog 59 #[.agg #[.string a, .string d], .agg #[.string a2, .string d2]] W (PrsR N D c W)) :
    Calls Tryz.prog 39 #[.string s, .string t, .func (.func 59) #[] #[]] w (StE ⟨#[]⟩ c w) := by
  have J := Lib.hid H
  have JK := Lib.hid HK
  have HV := Lib.hid hv
  have hz : (c == 0) = false := by rw [beq_eq_false_iff_ne]; exact h0
  clear H HK h0 hv
  go_enter Tryz.func39, Tryz.ntmps39
  go_wp2_with (first
    | (go_at_call 42; refine J.out.mono ?_; rintro e w1 ⟨rfl, b⟩; have B1 := Lib.hid (fun o o' => (b.alloc b.size o).alloc (by simp; have := b.size; omega) o'); clear b)
    | (go_at_call 59; refine (JK.out _ (HV.out.below (B1.out _ _))).mono ?_; rintro e w2 ⟨rfl, b⟩; have B2 := Lib.hid (bt (B1.out (.cells #[.string a, .string d] 60) (.cells #[.string a2, .string d2] 60)) b); clear b))
  go_ret2
  exact ⟨rfl, B2.out.alloc B2.out.size _⟩
set_option maxRecDepth 100000 in
set_option maxHeartbeats 1600000 in
theorem calc_difference_ok (s t a d a2 d2 N D R : ByteArray) (w : World) (hv : VarT w)
    (H : Calls Tryz.prog 42 #[.string s, .string t] w (TwoF a d a2 d2 0 w))
    (HK : ∀ W, VarT W → Calls Tryz.prog 59 #[.agg #[.string a, .string d], .agg #[.string a2, .string d2]] W (PrsR N D 0 W))
    (HX : ∀ W, Calls Tryz.prog 48 #[.agg #[.string N, .string D]] W (StrR R W)) :
    Calls Tryz.prog 39 #[.string s, .string t, .func (.func 59) #[] #[]] w (StE R 0 w) := by
  have J := Lib.hid H
  have JK := Lib.hid HK
  have JX := Lib.hid HX
  have HV := Lib.hid hv
  clear H HK HX hv
  go_enter Tryz.func39, Tryz.ntmps39
  go_wp2_with (first
    | (go_at_call 42; refine J.out.mono ?_; rintro e w1 ⟨rfl, b⟩; have B1 := Lib.hid (fun o o' => (b.alloc b.size o).alloc (by simp; have := b.size; omega) o'); clear b)
    | (go_at_call 59; refine (JK.out _ (HV.out.below (B1.out _ _))).mono ?_; rintro e w2 ⟨rfl, b⟩; have B2 := Lib.hid (bt (B1.out (.cells #[.string a, .string d] 60) (.cells #[.string a2, .string d2] 60)) b); clear b)
    | (go_at_call 48; refine (JX.out _).mono ?_; rintro e w3 ⟨rfl, b⟩; have B3 := Lib.hid (bt (B2.out.alloc B2.out.size (.cells #[.string N, .string D] 60)) b); clear b))
  go_ret2
  exact ⟨rfl, B3.out⟩
set_option maxRecDepth 100000 in
set_option maxHeartbeats 1600000 in
theorem calc_product_err (s t a d a2 d2 N D : ByteArray) (c : Int) (h0 : ¬ c = 0) (w : World) (hv : VarT w)
    (H : Calls Tryz.prog 42 #[.string s, .string t] w (TwoF a d a2 d2 0 w))
    (HK : ∀ W, VarT W → Calls Tryz.prog 40 #[.agg #[.string a, .string d], .agg #[.string a2, .string d2]] W (PrsR N D c W)) :
    Calls Tryz.prog 39 #[.string s, .string t, .func (.func 40) #[] #[]] w (StE ⟨#[]⟩ c w) := by
  have J := Lib.hid H
  have JK := Lib.hid HK
  have HV := Lib.hid hv
  have hz : (c == 0) = false := by rw [beq_eq_false_iff_ne]; exact h0
  clear H HK h0 hv
  go_enter Tryz.func39, Tryz.ntmps39
  go_wp2_with (first
    | (go_at_call 42; refine J.out.mono ?_; rintro e w1 ⟨rfl, b⟩; have B1 := Lib.hid (fun o o' => (b.alloc b.size o).alloc (by simp; have := b.size; omega) o'); clear b)
    | (go_at_call 40; refine (JK.out _ (HV.out.below (B1.out _ _))).mono ?_; rintro e w2 ⟨rfl, b⟩; have B2 := Lib.hid (bt (B1.out (.cells #[.string a, .string d] 60) (.cells #[.string a2, .string d2] 60)) b); clear b))
  go_ret2
  exact ⟨rfl, B2.out.alloc B2.out.size _⟩
set_option maxRecDepth 100000 in
set_option maxHeartbeats 1600000 in
theorem calc_product_ok (s t a d a2 d2 N D R : ByteArray) (w : World) (hv : VarT w)
    (H : Calls Tryz.prog 42 #[.string s, .string t] w (TwoF a d a2 d2 0 w))
    (HK : ∀ W, VarT W → Calls Tryz.prog 40 #[.agg #[.string a, .string d], .agg #[.string a2, .string d2]] W (PrsR N D 0 W))
    (HX : ∀ W, Calls Tryz.prog 48 #[.agg #[.string N, .string D]] W (StrR R W)) :
    Calls Tryz.prog 39 #[.string s, .string t, .func (.func 40) #[] #[]] w (StE R 0 w) := by
  have J := Lib.hid H
  have JK := Lib.hid HK
  have JX := Lib.hid HX
  have HV := Lib.hid hv
  clear H HK HX hv
  go_enter Tryz.func39, Tryz.ntmps39
  go_wp2_with (first
    | (go_at_call 42; refine J.out.mono ?_; rintro e w1 ⟨rfl, b⟩; have B1 := Lib.hid (fun o o' => (b.alloc b.size o).alloc (by simp; have := b.size; omega) o'); clear b)
    | (go_at_call 40; refine (JK.out _ (HV.out.below (B1.out _ _))).mono ?_; rintro e w2 ⟨rfl, b⟩; have B2 := Lib.hid (bt (B1.out (.cells #[.string a, .string d] 60) (.cells #[.string a2, .string d2] 60)) b); clear b)
    | (go_at_call 48; refine (JX.out _).mono ?_; rintro e w3 ⟨rfl, b⟩; have B3 := Lib.hid (bt (B2.out.alloc B2.out.size (.cells #[.string N, .string D] 60)) b); clear b))
  go_ret2
  exact ⟨rfl, B3.out⟩
set_option maxRecDepth 100000 in
set_option maxHeartbeats 1600000 in
theorem calc_quotient_err (s t a d a2 d2 N D : ByteArray) (c : Int) (h0 : ¬ c = 0) (w : World) (hv : VarT w)
    (H : Calls Tryz.prog 42 #[.string s, .string t] w (TwoF a d a2 d2 0 w))
    (HK : ∀ W, VarT W → Calls Tryz.prog 45 #[.agg #[.string a, .string d], .agg #[.string a2, .string d2]] W (PrsR N D c W)) :
    Calls Tryz.prog 39 #[.string s, .string t, .func (.func 45) #[] #[]] w (StE ⟨#[]⟩ c w) := by
  have J := Lib.hid H
  have JK := Lib.hid HK
  have HV := Lib.hid hv
  have hz : (c == 0) = false := by rw [beq_eq_false_iff_ne]; exact h0
  clear H HK h0 hv
  go_enter Tryz.func39, Tryz.ntmps39
  go_wp2_with (first
    | (go_at_call 42; refine J.out.mono ?_; rintro e w1 ⟨rfl, b⟩; have B1 := Lib.hid (fun o o' => (b.alloc b.size o).alloc (by simp; have := b.size; omega) o'); clear b)
    | (go_at_call 45; refine (JK.out _ (HV.out.below (B1.out _ _))).mono ?_; rintro e w2 ⟨rfl, b⟩; have B2 := Lib.hid (bt (B1.out (.cells #[.string a, .string d] 60) (.cells #[.string a2, .string d2] 60)) b); clear b))
  go_ret2
  exact ⟨rfl, B2.out.alloc B2.out.size _⟩
set_option maxRecDepth 100000 in
set_option maxHeartbeats 1600000 in
theorem calc_quotient_ok (s t a d a2 d2 N D R : ByteArray) (w : World) (hv : VarT w)
    (H : Calls Tryz.prog 42 #[.string s, .string t] w (TwoF a d a2 d2 0 w))
    (HK : ∀ W, VarT W → Calls Tryz.prog 45 #[.agg #[.string a, .string d], .agg #[.string a2, .string d2]] W (PrsR N D 0 W))
    (HX : ∀ W, Calls Tryz.prog 48 #[.agg #[.string N, .string D]] W (StrR R W)) :
    Calls Tryz.prog 39 #[.string s, .string t, .func (.func 45) #[] #[]] w (StE R 0 w) := by
  have J := Lib.hid H
  have JK := Lib.hid HK
  have JX := Lib.hid HX
  have HV := Lib.hid hv
  clear H HK HX hv
  go_enter Tryz.func39, Tryz.ntmps39
  go_wp2_with (first
    | (go_at_call 42; refine J.out.mono ?_; rintro e w1 ⟨rfl, b⟩; have B1 := Lib.hid (fun o o' => (b.alloc b.size o).alloc (by simp; have := b.size; omega) o'); clear b)
    | (go_at_call 45; refine (JK.out _ (HV.out.below (B1.out _ _))).mono ?_; rintro e w2 ⟨rfl, b⟩; have B2 := Lib.hid (bt (B1.out (.cells #[.string a, .string d] 60) (.cells #[.string a2, .string d2] 60)) b); clear b)
    | (go_at_call 48; refine (JX.out _).mono ?_; rintro e w3 ⟨rfl, b⟩; have B3 := Lib.hid (bt (B2.out.alloc B2.out.size (.cells #[.string N, .string D] 60)) b); clear b))
  go_ret2
  exact ⟨rfl, B3.out⟩
end Go.Proofs.YtgjhgkglfflmjaaGreatDoor

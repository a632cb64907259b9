/- Joined: RatAo, RatAk. -/
import Derived.Test.YtceooffedkalnaaGreatDoorPk19
import Derived.OwnWalk
import Derived.Laws.OwnMore
/- The walks of layer 2: Sum. -/
namespace Go.Proofs.YtceooffedkalnaaGreatDoor
open Go Go.RowKit
theorem sc2_row {w : World} {q : Nat} {a b v1 v2 : Value} {t : TypeId} (h : w.heap[q]? = some (.cells #[a, b] t (0, 0))) : ((w.setCell ⟨q, 0, none⟩ v1).setCell ⟨q, 1, none⟩ v2).heap[q]? = some (.cells #[v1, v2] t (0, 0)) := by
  simp [World.setCell, Array.getElem?_modify, h]
end Go.Proofs.YtceooffedkalnaaGreatDoor
/- Joined: RatAk, RatAl, RatAm, RatAp. -/
/- The walks of the reference of layer 2: Four, Cross, fraction, Add, Negative, Sub, Mul, Div, Compare. -/
namespace Go.Proofs.YtceooffedkalnaaGreatDoor
open Go Go.RowKit
def TwoW (n d : ByteArray) (w : World) (e : Ending) (w2 : World) : Prop := e = .returned (.tuple #[.string n, .string d]) ∧ Below w.heap.size w w2
theorem WriB {n d : ByteArray} {w : World} {e : Ending} {w2 : World} (h : WriR n d w e w2) : TwoW n d w e w2 := by
  obtain ⟨rfl, k, rfl⟩ := h
  exact ⟨rfl, below_drewN (Below.refl _ _) k⟩
set_option maxRecDepth 100000 in
set_option maxHeartbeats 1600000 in
theorem four_ok (s t n d m c : ByteArray) (w : World)
    (H1 : ∀ W, Calls Tryz.prog 65 #[.string s] W (IntB 0 W))
    (H2 : ∀ W, Calls Tryz.prog 65 #[.string t] W (IntB 0 W))
    (H3 : ∀ W, Calls Tryz.prog 104 #[.string s] W (TwoW n d W))
    (H4 : ∀ W, Calls Tryz.prog 104 #[.string t] W (TwoW m c W)) :
    Calls Tryz.prog 147 #[.string s, .string t] w (FourR n d m c 0 w) := by
  have J1 := Lib.hid H1
  have J2 := Lib.hid H2
  have J3 := Lib.hid H3
  have J4 := Lib.hid H4
  clear H1 H2 H3 H4
  go_enter Tryz.func147, Tryz.ntmps147
  go_wp2_with (first
    | (go_at_call 65; (with_reducible refine (J1.out _).mono ?_); rintro e u1 ⟨rfl, b⟩; have D1 := Lib.hid b; clear b)
    | (go_at_call 65; (with_reducible refine (J2.out _).mono ?_); rintro e u2 ⟨rfl, b⟩; have D2 := Lib.hid (bt D1.out b); clear b)
    | (go_at_call 104; (with_reducible refine (J3.out _).mono ?_); rintro e u3 ⟨rfl, b⟩; have D3 := Lib.hid (bt D2.out b); clear b)
    | (go_at_call 104; (with_reducible refine (J4.out _).mono ?_); rintro e u4 ⟨rfl, b⟩; have D4 := Lib.hid (bt D3.out b); clear b))
  exact bodyPost_ret (v := .tuple #[.string n, .string d, .string m, .string c, .int .i64 0]) (by simp [results, Tryz.results147, go_sem]) rfl ⟨rfl, D4.out⟩
set_option maxRecDepth 100000 in
set_option maxHeartbeats 1600000 in
theorem four_one (s t : ByteArray) (c : Int) (hc : ¬ c = 0) (w : World)
    (H1 : ∀ W, Calls Tryz.prog 65 #[.string s] W (IntB c W)) :
    Calls Tryz.prog 147 #[.string s, .string t] w (FourR ⟨#[]⟩ ⟨#[]⟩ ⟨#[]⟩ ⟨#[]⟩ c w) := by
  have J1 := Lib.hid H1
  have zc : (c == 0) = false := by rw [beq_eq_false_iff_ne]; exact hc
  clear H1 hc
  go_enter Tryz.func147, Tryz.ntmps147
  go_wp2_with fail
  refine (J1.out _).mono ?_
  rintro e u1 ⟨rfl, b⟩
  have D1 := Lib.hid b
  clear b
  go_wp2_with fail
  refine (J1.out _).mono ?_
  rintro e u2 ⟨rfl, b⟩
  have D2 := Lib.hid (bt D1.out b)
  clear b
  go_wp2
  exact bodyPost_ret (v := .tuple #[.string ⟨#[]⟩, .string ⟨#[]⟩, .string ⟨#[]⟩, .string ⟨#[]⟩, .int .i64 c]) (by simp [results, Tryz.results147, go_sem]) rfl ⟨rfl, D2.out⟩
set_option maxRecDepth 100000 in
set_option maxHeartbeats 1600000 in
theorem four_two (s t : ByteArray) (c : Int) (hc : ¬ c = 0) (w : World)
    (H1 : ∀ W, Calls Tryz.prog 65 #[.string s] W (IntB 0 W))
    (H2 : ∀ W, Calls Tryz.prog 65 #[.string t] W (IntB c W)) :
    Calls Tryz.prog 147 #[.string s, .string t] w (FourR ⟨#[]⟩ ⟨#[]⟩ ⟨#[]⟩ ⟨#[]⟩ c w) := by
  have J1 := Lib.hid H1
  have J2 := Lib.hid H2
  have zc : (c == 0) = false := by rw [beq_eq_false_iff_ne]; exact hc
  clear H1 H2 hc
  go_enter Tryz.func147, Tryz.ntmps147
  go_wp2_with fail
  refine (J1.out _).mono ?_
  rintro e u1 ⟨rfl, b⟩
  have D1 := Lib.hid b
  clear b
  go_wp2_with fail
  refine (J2.out _).mono ?_
  rintro e u2 ⟨rfl, b⟩
  have D2 := Lib.hid (bt D1.out b)
  clear b
  go_wp2_with fail
  refine (J2.out _).mono ?_
  rintro e u3 ⟨rfl, b⟩
  have D3 := Lib.hid (bt D2.out b)
  clear b
  go_wp2
  exact bodyPost_ret (v := .tuple #[.string ⟨#[]⟩, .string ⟨#[]⟩, .string ⟨#[]⟩, .string ⟨#[]⟩, .int .i64 c]) (by simp [results, Tryz.results147, go_sem]) rfl ⟨rfl, D3.out⟩
set_option maxRecDepth 100000 in
set_option maxHeartbeats 1600000 in
theorem cross_e (s t n d m k : ByteArray) (c : Int) (hc : ¬ c = 0) (w : World)
    (H1 : ∀ W, Calls Tryz.prog 147 #[.string s, .string t] W (FourR n d m k c W)) :
    Calls Tryz.prog 146 #[.string s, .string t] w (TwoB ⟨#[]⟩ ⟨#[]⟩ c w) := by
  have J1 := Lib.hid H1
  have zc : (c == 0) = false := by rw [beq_eq_false_iff_ne]; exact hc
  clear H1 hc
  go_enter Tryz.func146, Tryz.ntmps146
  go_wp2_with (first
    | (go_at_call 147; (with_reducible refine (J1.out _).mono ?_); rintro e u1 ⟨rfl, b⟩; have D1 := Lib.hid b; clear b))
  exact bodyPost_ret (v := .tuple #[.string ⟨#[]⟩, .string ⟨#[]⟩, .int .i64 c]) (by simp [results, Tryz.results146, go_sem]) rfl ⟨rfl, D1.out⟩
set_option maxRecDepth 100000 in
set_option maxHeartbeats 1600000 in
theorem cross_1 (s t n d m k x y : ByteArray) (f g : Int) (hf : ¬ f = 0) (w : World)
    (H1 : ∀ W, Calls Tryz.prog 147 #[.string s, .string t] W (FourR n d m k 0 W))
    (H2 : ∀ W, Calls Tryz.prog 149 #[.string n, .string k] W (StE x f W))
    (H3 : ∀ W, Calls Tryz.prog 149 #[.string m, .string d] W (StE y g W)) :
    Calls Tryz.prog 146 #[.string s, .string t] w (TwoB ⟨#[]⟩ ⟨#[]⟩ 14 w) := by
  have J1 := Lib.hid H1
  have J2 := Lib.hid H2
  have J3 := Lib.hid H3
  have zf : (f == 0) = false := by rw [beq_eq_false_iff_ne]; exact hf
  clear H1 H2 H3 hf
  go_enter Tryz.func146, Tryz.ntmps146
  go_wp2_with (first
    | (go_at_call 147; (with_reducible refine (J1.out _).mono ?_); rintro e u1 ⟨rfl, b⟩; have D1 := Lib.hid b; clear b)
    | (go_at_call 149; (with_reducible refine (J2.out _).mono ?_); rintro e u2 ⟨rfl, b⟩; have D2 := Lib.hid (bt D1.out b); clear b)
    | (go_at_call 149; (with_reducible refine (J3.out _).mono ?_); rintro e u3 ⟨rfl, b⟩; have D3 := Lib.hid (bt D2.out b); clear b))
  exact bodyPost_ret (v := .tuple #[.string ⟨#[]⟩, .string ⟨#[]⟩, .int .i64 14]) (by simp [results, Tryz.results146, go_sem]) rfl ⟨rfl, D3.out⟩
set_option maxRecDepth 100000 in
set_option maxHeartbeats 1600000 in
theorem cross_2 (s t n d m k x y : ByteArray) (g : Int) (hg : ¬ g = 0) (w : World)
    (H1 : ∀ W, Calls Tryz.prog 147 #[.string s, .string t] W (FourR n d m k 0 W))
    (H2 : ∀ W, Calls Tryz.prog 149 #[.string n, .string k] W (StE x 0 W))
    (H3 : ∀ W, Calls Tryz.prog 149 #[.string m, .string d] W (StE y g W)) :
    Calls Tryz.prog 146 #[.string s, .string t] w (TwoB ⟨#[]⟩ ⟨#[]⟩ 14 w) := by
  have J1 := Lib.hid H1
  have J2 := Lib.hid H2
  have J3 := Lib.hid H3
  have zg : (g == 0) = false := by rw [beq_eq_false_iff_ne]; exact hg
  clear H1 H2 H3 hg
  go_enter Tryz.func146, Tryz.ntmps146
  go_wp2_with (first
    | (go_at_call 147; (with_reducible refine (J1.out _).mono ?_); rintro e u1 ⟨rfl, b⟩; have D1 := Lib.hid b; clear b)
    | (go_at_call 149; (with_reducible refine (J2.out _).mono ?_); rintro e u2 ⟨rfl, b⟩; have D2 := Lib.hid (bt D1.out b); clear b)
    | (go_at_call 149; (with_reducible refine (J3.out _).mono ?_); rintro e u3 ⟨rfl, b⟩; have D3 := Lib.hid (bt D2.out b); clear b))
  exact bodyPost_ret (v := .tuple #[.string ⟨#[]⟩, .string ⟨#[]⟩, .int .i64 14]) (by simp [results, Tryz.results146, go_sem]) rfl ⟨rfl, D3.out⟩
set_option maxRecDepth 100000 in
set_option maxHeartbeats 1600000 in
theorem cross_ok (s t n d m k x y : ByteArray) (w : World)
    (H1 : ∀ W, Calls Tryz.prog 147 #[.string s, .string t] W (FourR n d m k 0 W))
    (H2 : ∀ W, Calls Tryz.prog 149 #[.string n, .string k] W (StE x 0 W))
    (H3 : ∀ W, Calls Tryz.prog 149 #[.string m, .string d] W (StE y 0 W)) :
    Calls Tryz.prog 146 #[.string s, .string t] w (TwoB x y 0 w) := by
  have J1 := Lib.hid H1
  have J2 := Lib.hid H2
  have J3 := Lib.hid H3
  clear H1 H2 H3
  go_enter Tryz.func146, Tryz.ntmps146
  go_wp2_with (first
    | (go_at_call 147; (with_reducible refine (J1.out _).mono ?_); rintro e u1 ⟨rfl, b⟩; have D1 := Lib.hid b; clear b)
    | (go_at_call 149; (with_reducible refine (J2.out _).mono ?_); rintro e u2 ⟨rfl, b⟩; have D2 := Lib.hid (bt D1.out b); clear b)
    | (go_at_call 149; (with_reducible refine (J3.out _).mono ?_); rintro e u3 ⟨rfl, b⟩; have D3 := Lib.hid (bt D2.out b); clear b))
  exact bodyPost_ret (v := .tuple #[.string x, .string y, .int .i64 0]) (by simp [results, Tryz.results146, go_sem]) rfl ⟨rfl, D3.out⟩
set_option maxRecDepth 100000 in
set_option maxHeartbeats 1600000 in
theorem frac_1 (n d : ByteArray) (f g : Int) (hf : ¬ f = 0) (w : World) :
    Calls Tryz.prog 150 #[.string n, .string d, .int .i64 f, .int .i64 g] w (StE ⟨#[]⟩ 14 w) := by
  have zf : (f == 0) = false := by rw [beq_eq_false_iff_ne]; exact hf
  clear  hf
  go_enter Tryz.func150, Tryz.ntmps150
  go_wp2
  go_ret2
  exact ⟨rfl, Below.refl _ _⟩
set_option maxRecDepth 100000 in
set_option maxHeartbeats 1600000 in
theorem frac_2 (n d : ByteArray) (g : Int) (hg : ¬ g = 0) (w : World) :
    Calls Tryz.prog 150 #[.string n, .string d, .int .i64 0, .int .i64 g] w (StE ⟨#[]⟩ 14 w) := by
  have zg : (g == 0) = false := by rw [beq_eq_false_iff_ne]; exact hg
  clear  hg
  go_enter Tryz.func150, Tryz.ntmps150
  go_wp2
  go_ret2
  exact ⟨rfl, Below.refl _ _⟩
set_option maxRecDepth 100000 in
set_option maxHeartbeats 1600000 in
theorem frac_ok (n d R : ByteArray) (c : Int) (w : World)
    (H1 : ∀ W, Calls Tryz.prog 175 #[.string n, .string d] W (StE R c W)) :
    Calls Tryz.prog 150 #[.string n, .string d, .int .i64 0, .int .i64 0] w (StE R c w) := by
  have J1 := Lib.hid H1
  clear H1
  go_enter Tryz.func150, Tryz.ntmps150
  go_wp2_with (first
    | (go_at_call 175; (with_reducible refine (J1.out _).mono ?_); rintro e u1 ⟨rfl, b⟩; have D1 := Lib.hid b; clear b))
  go_ret2
  exact ⟨rfl, D1.out⟩
set_option maxRecDepth 100000 in
set_option maxHeartbeats 1600000 in
theorem rfadd_e (s t x y : ByteArray) (c : Int) (hc : ¬ c = 0) (w : World)
    (H1 : ∀ W, Calls Tryz.prog 146 #[.string s, .string t] W (TwoB x y c W)) :
    Calls Tryz.prog 111 #[.string s, .string t] w (StE ⟨#[]⟩ c w) := by
  have J1 := Lib.hid H1
  have zc : (c == 0) = false := by rw [beq_eq_false_iff_ne]; exact hc
  clear H1 hc
  go_enter Tryz.func111, Tryz.ntmps111
  go_wp2_with (first
    | (go_at_call 146; (with_reducible refine (J1.out _).mono ?_); rintro e u1 ⟨rfl, b⟩; have D1 := Lib.hid b; clear b))
  go_ret2
  exact ⟨rfl, D1.out⟩
set_option maxRecDepth 100000 in
set_option maxHeartbeats 1600000 in
theorem rfadd_ok (s t x y n d m k p q R : ByteArray) (f g c : Int) (w : World)
    (H1 : ∀ W, Calls Tryz.prog 146 #[.string s, .string t] W (TwoB x y 0 W))
    (H2 : ∀ W, Calls Tryz.prog 147 #[.string s, .string t] W (FourR n d m k 0 W))
    (H3 : ∀ W, Calls Tryz.prog 148 #[.string x, .string y] W (StE p f W))
    (H4 : ∀ W, Calls Tryz.prog 149 #[.string d, .string k] W (StE q g W))
    (H5 : ∀ W, Calls Tryz.prog 150 #[.string p, .string q, .int .i64 f, .int .i64 g] W (StE R c W)) :
    Calls Tryz.prog 111 #[.string s, .string t] w (StE R c w) := by
  have J1 := Lib.hid H1
  have J2 := Lib.hid H2
  have J3 := Lib.hid H3
  have J4 := Lib.hid H4
  have J5 := Lib.hid H5
  clear H1 H2 H3 H4 H5
  go_enter Tryz.func111, Tryz.ntmps111
  go_wp2_with (first
    | (go_at_call 146; (with_reducible refine (J1.out _).mono ?_); rintro e u1 ⟨rfl, b⟩; have D1 := Lib.hid b; clear b)
    | (go_at_call 147; (with_reducible refine (J2.out _).mono ?_); rintro e u2 ⟨rfl, b⟩; have D2 := Lib.hid (bt D1.out b); clear b)
    | (go_at_call 148; (with_reducible refine (J3.out _).mono ?_); rintro e u3 ⟨rfl, b⟩; have D3 := Lib.hid (bt D2.out b); clear b)
    | (go_at_call 149; (with_reducible refine (J4.out _).mono ?_); rintro e u4 ⟨rfl, b⟩; have D4 := Lib.hid (bt D3.out b); clear b)
    | (go_at_call 150; (with_reducible refine (J5.out _).mono ?_); rintro e u5 ⟨rfl, b⟩; have D5 := Lib.hid (bt D4.out b); clear b))
  go_ret2
  exact ⟨rfl, D5.out⟩
set_option maxRecDepth 100000 in
set_option maxHeartbeats 1600000 in
theorem rfneg_zero  (w : World) :
    Calls Tryz.prog 151 #[.string ⟨#[48]⟩] w (StrR ⟨#[48]⟩ w) := by
  go_enter Tryz.func151, Tryz.ntmps151
  go_wp2
  go_ret
  exact ⟨rfl, Below.refl _ _⟩
set_option maxRecDepth 100000 in
set_option maxHeartbeats 1600000 in
theorem rfneg_neg (s u : ByteArray) (h0 : 0 < s.size) (h1 : ((s[0].toNat : Int) == 45) = true) (hz : (s.toList == [48]) = false) (hu : s.extract 1 s.size = u) (w : World) :
    Calls Tryz.prog 151 #[.string s] w (StrR u w) := by
  go_enter Tryz.func151, Tryz.ntmps151
  go_wp2
  go_ret
  exact ⟨rfl, Below.refl _ _⟩
set_option maxRecDepth 100000 in
set_option maxHeartbeats 1600000 in
theorem rfneg_pos (s u : ByteArray) (h0 : 0 < s.size) (h1 : ((s[0].toNat : Int) == 45) = false) (hz : (s.toList == [48]) = false) (hs : ¬ 9223372036854775807 < 1 + s.size) (hu : (⟨#[45]⟩ : ByteArray) ++ s = u) (w : World) :
    Calls Tryz.prog 151 #[.string s] w (StrR u w) := by
  go_enter Tryz.func151, Tryz.ntmps151
  go_wp2
  go_ret
  exact ⟨rfl, Below.refl _ _⟩
set_option maxRecDepth 100000 in
set_option maxHeartbeats 1600000 in
theorem rfsub_e (s t n d m k : ByteArray) (c : Int) (hc : ¬ c = 0) (w : World)
    (H1 : ∀ W, Calls Tryz.prog 147 #[.string s, .string t] W (FourR n d m k c W)) :
    Calls Tryz.prog 112 #[.string s, .string t] w (StE ⟨#[]⟩ c w) := by
  have J1 := Lib.hid H1
  have zc : (c == 0) = false := by rw [beq_eq_false_iff_ne]; exact hc
  clear H1 hc
  go_enter Tryz.func112, Tryz.ntmps112
  go_wp2_with (first
    | (go_at_call 147; (with_reducible refine (J1.out _).mono ?_); rintro e u1 ⟨rfl, b⟩; have D1 := Lib.hid b; clear b))
  go_ret2
  exact ⟨rfl, D1.out⟩
set_option maxRecDepth 100000 in
set_option maxHeartbeats 1600000 in
theorem rfsub_ok (s t n d m k u R : ByteArray) (c : Int) (w : World)
    (H1 : ∀ W, Calls Tryz.prog 147 #[.string s, .string t] W (FourR n d m k 0 W))
    (H2 : ∀ W, Calls Tryz.prog 151 #[.string t] W (StrR u W))
    (H3 : ∀ W, Calls Tryz.prog 111 #[.string s, .string u] W (StE R c W)) :
    Calls Tryz.prog 112 #[.string s, .string t] w (StE R c w) := by
  have J1 := Lib.hid H1
  have J2 := Lib.hid H2
  have J3 := Lib.hid H3
  clear H1 H2 H3
  go_enter Tryz.func112, Tryz.ntmps112
  go_wp2_with (first
    | (go_at_call 147; (with_reducible refine (J1.out _).mono ?_); rintro e u1 ⟨rfl, b⟩; have D1 := Lib.hid b; clear b)
    | (go_at_call 151; (with_reducible refine (J2.out _).mono ?_); rintro e u2 ⟨rfl, b⟩; have D2 := Lib.hid (bt D1.out b); clear b)
    | (go_at_call 111; (with_reducible refine (J3.out _).mono ?_); rintro e u3 ⟨rfl, b⟩; have D3 := Lib.hid (bt D2.out b); clear b))
  go_ret2
  exact ⟨rfl, D3.out⟩
set_option maxRecDepth 100000 in
set_option maxHeartbeats 1600000 in
theorem rfmul_e (s t n d m k : ByteArray) (c : Int) (hc : ¬ c = 0) (w : World)
    (H1 : ∀ W, Calls Tryz.prog 147 #[.string s, .string t] W (FourR n d m k c W)) :
    Calls Tryz.prog 113 #[.string s, .string t] w (StE ⟨#[]⟩ c w) := by
  have J1 := Lib.hid H1
  have zc : (c == 0) = false := by rw [beq_eq_false_iff_ne]; exact hc
  clear H1 hc
  go_enter Tryz.func113, Tryz.ntmps113
  go_wp2_with (first
    | (go_at_call 147; (with_reducible refine (J1.out _).mono ?_); rintro e u1 ⟨rfl, b⟩; have D1 := Lib.hid b; clear b))
  go_ret2
  exact ⟨rfl, D1.out⟩
set_option maxRecDepth 100000 in
set_option maxHeartbeats 1600000 in
theorem rfmul_ok (s t n d m k x y R : ByteArray) (f g c : Int) (w : World)
    (H1 : ∀ W, Calls Tryz.prog 147 #[.string s, .string t] W (FourR n d m k 0 W))
    (H2 : ∀ W, Calls Tryz.prog 149 #[.string n, .string m] W (StE x f W))
    (H3 : ∀ W, Calls Tryz.prog 149 #[.string d, .string k] W (StE y g W))
    (H4 : ∀ W, Calls Tryz.prog 150 #[.string x, .string y, .int .i64 f, .int .i64 g] W (StE R c W)) :
    Calls Tryz.prog 113 #[.string s, .string t] w (StE R c w) := by
  have J1 := Lib.hid H1
  have J2 := Lib.hid H2
  have J3 := Lib.hid H3
  have J4 := Lib.hid H4
  clear H1 H2 H3 H4
  go_enter Tryz.func113, Tryz.ntmps113
  go_wp2_with (first
    | (go_at_call 147; (with_reducible refine (J1.out _).mono ?_); rintro e u1 ⟨rfl, b⟩; have D1 := Lib.hid b; clear b)
    | (go_at_call 149; (with_reducible refine (J2.out _).mono ?_); rintro e u2 ⟨rfl, b⟩; have D2 := Lib.hid (bt D1.out b); clear b)
    | (go_at_call 149; (with_reducible refine (J3.out _).mono ?_); rintro e u3 ⟨rfl, b⟩; have D3 := Lib.hid (bt D2.out b); clear b)
    | (go_at_call 150; (with_reducible refine (J4.out _).mono ?_); rintro e u4 ⟨rfl, b⟩; have D4 := Lib.hid (bt D3.out b); clear b))
  go_ret2
  exact ⟨rfl, D4.out⟩
set_option maxRecDepth 100000 in
set_option maxHeartbeats 1600000 in
theorem rfcmp_e (s t x y : ByteArray) (c : Int) (hc : ¬ c = 0) (w : World)
    (H1 : ∀ W, Calls Tryz.prog 146 #[.string s, .string t] W (TwoB x y c W)) :
    Calls Tryz.prog 114 #[.string s, .string t] w (CmE 0 c w) := by
  have J1 := Lib.hid H1
  have zc : (c == 0) = false := by rw [beq_eq_false_iff_ne]; exact hc
  clear H1 hc
  go_enter Tryz.func114, Tryz.ntmps114
  go_wp2_with (first
    | (go_at_call 146; (with_reducible refine (J1.out _).mono ?_); rintro e u1 ⟨rfl, b⟩; have D1 := Lib.hid b; clear b))
  go_ret2
  exact ⟨rfl, D1.out⟩
set_option maxRecDepth 100000 in
set_option maxHeartbeats 1600000 in
theorem rfcmp_ok (s t x y : ByteArray) (r c : Int) (w : World)
    (H1 : ∀ W, Calls Tryz.prog 146 #[.string s, .string t] W (TwoB x y 0 W))
    (H2 : ∀ W, Calls Tryz.prog 152 #[.string x, .string y] W (CmE r c W)) :
    Calls Tryz.prog 114 #[.string s, .string t] w (CmE r c w) := by
  have J1 := Lib.hid H1
  have J2 := Lib.hid H2
  clear H1 H2
  go_enter Tryz.func114, Tryz.ntmps114
  go_wp2_with (first
    | (go_at_call 146; (with_reducible refine (J1.out _).mono ?_); rintro e u1 ⟨rfl, b⟩; have D1 := Lib.hid b; clear b)
    | (go_at_call 152; (with_reducible refine (J2.out _).mono ?_); rintro e u2 ⟨rfl, b⟩; have D2 := Lib.hid (bt D1.out b); clear b))
  go_ret2
  exact ⟨rfl, D2.out⟩
def lT (z : Int) : ByteArray := if LB z = true then rep z else ⟨#[]⟩
def lC (z : Int) : Int := if LB z = true then 0 else 14
theorem lT_ok {z : Int} (h : LB z = true) : lT z = rep z := if_pos h
theorem lC_ok {z : Int} (h : LB z = true) : lC z = 0 := if_pos h
theorem lC_no {z : Int} (h : LB z = false) : lC z = 14 := if_neg (by rw [h]; decide)
theorem limS_l (z : Int) : (⟨(limS z).1.toArray⟩ : ByteArray) = lT z ∧ (limS z).2 = lC z := by
  unfold limS lT lC
  cases h : LB z
  · rw [if_neg (LB_false h), if_neg (by decide), if_neg (by decide)]; exact ⟨rfl, rfl⟩
  · rw [if_pos (LB_true.1 h), if_pos rfl, if_pos rfl]; exact ⟨rfl, rfl⟩
theorem refmul_l {x y z : Int} (hx : x.natAbs < lim) (hy : y.natAbs < lim) (hz : x * y = z) (w : World) : Calls Tryz.prog 149 #[.string (rep x), .string (rep y)] w (StE (lT z) (lC z) w) := by
  subst hz
  have h := refMul_any (rep x) (rep y) (rep_small hx) (rep_small hy) w
  rw [rep_data, rep_data, opS_ok (chk_rep hx hy), num_itoa, num_itoa, (limS_l _).1, (limS_l _).2] at h
  exact h
theorem refadd_l {x y z : Int} (hx : x.natAbs < lim) (hy : y.natAbs < lim) (hz : x + y = z) (w : World) : Calls Tryz.prog 148 #[.string (rep x), .string (rep y)] w (StE (lT z) (lC z) w) := by
  subst hz
  have h := refAdd_any (rep x) (rep y) (rep_small hx) (rep_small hy) w
  rw [rep_data, rep_data, opS_ok (chk_rep hx hy), num_itoa, num_itoa, (limS_l _).1, (limS_l _).2] at h
  exact h
theorem refcmp_l {x y : Int} (hx : x.natAbs < lim) (hy : y.natAbs < lim) (w : World) : Calls Tryz.prog 152 #[.string (rep x), .string (rep y)] w (CmE (cmpZ x y) 0 w) := by
  have h := refCompare_any (rep x) (rep y) (rep_small hx) (rep_small hy) w
  rw [rep_data, rep_data] at h
  unfold cmpS at h
  rw [if_pos (chk_rep hx hy), num_itoa, num_itoa] at h
  exact h
theorem frac_l {x y : Int} {q : Rat} (h0 : y ≠ 0) (hq : Rat.divInt x y = q) (c : Int) (hc : (if LB x && LB y then 0 else 14) = c) (w : World) :
    Calls Tryz.prog 150 #[.string (lT x), .string (lT y), .int .i64 (lC x), .int .i64 (lC y)] w (StE (qT c q) c w) := by
  cases h1 : LB x
  · rw [h1] at hc
    obtain rfl : 14 = c := hc
    rw [qT_err (by decide)]
    exact frac_1 _ _ _ _ (by rw [lC_no h1]; decide) w
  cases h2 : LB y
  · rw [h1, h2] at hc
    obtain rfl : 14 = c := hc
    rw [qT_err (by decide), lC_ok h1]
    exact frac_2 _ _ _ (by rw [lC_no h2]; decide) w
  rw [h1, h2] at hc
  obtain rfl : 0 = c := hc
  rw [lC_ok h1, lC_ok h2, lT_ok h1, lT_ok h2, qT_ok]
  refine frac_ok _ _ _ _ w (fun W => ?_)
  have hx := LB_true.1 h1
  have hy := LB_true.1 h2
  have h := refMake_any (rep x) (rep y) (rep_small hx) (rep_small hy) W
  rw [rep_data, rep_data, mkS_ok (chk_rep hx hy) (by rw [num_itoa]; exact h0), num_itoa, num_itoa, qN_rat h0, qD_rat h0, hq] at h
  exact h
theorem rcheck_q {q : Rat} (h : Sml q) (W : World) : Calls Tryz.prog 65 #[.string (rq q)] W (IntB 0 W) := by
  have k := refRCheck_any (rq q) (by have := rq_size h; omega) W
  rw [rq_chk h] at k
  exact k
theorem rwritten_q {q : Rat} (h : Sml q) (W : World) : Calls Tryz.prog 104 #[.string (rq q)] W (TwoW (rep q.num) (rep (q.den : Int)) W) := by
  have k := written_any (rq q) (by have := rq_size h; omega) W
  rw [rq_nB, rq_dB] at k
  exact k.mono fun e w h => WriB h
theorem four_q {a b : Rat} (ha : Sml a) (hb : Sml b) (w : World) : Calls Tryz.prog 147 #[.string (rq a), .string (rq b)] w (FourR (rep a.num) (rep (a.den : Int)) (rep b.num) (rep (b.den : Int)) 0 w) :=
  four_ok _ _ _ _ _ _ w (rcheck_q ha) (rcheck_q hb) (rwritten_q ha) (rwritten_q hb)
theorem four_bad (f : Rat → Rat → Int) (s t : ByteArray) (hs : s.size ≤ 1048576) (ht : t.size ≤ 1048576) :
    (¬ twC f s.data.toList t.data.toList = 0 ∧ ∀ w, Calls Tryz.prog 147 #[.string s, .string t] w (FourR ⟨#[]⟩ ⟨#[]⟩ ⟨#[]⟩ ⟨#[]⟩ (twC f s.data.toList t.data.toList) w)) ∨ ∃ a b, s = rq a ∧ t = rq b ∧ Sml a ∧ Sml b := by
  rcases text_cases s with h1 | ⟨a, rfl, ha⟩
  · left
    rw [twC_l h1]
    exact ⟨h1, fun w => four_one _ _ _ h1 w (refRCheck_any s hs)⟩
  rcases text_cases t with h2 | ⟨b, rfl, hb⟩
  · left
    rw [twC_r (rq_chk ha) h2]
    exact ⟨h2, fun w => four_two _ _ _ h2 w (rcheck_q ha) (refRCheck_any t ht)⟩
  · exact .inr ⟨a, b, rfl, rfl, ha, hb⟩
theorem cross_q {a b : Rat} (ha : Sml a) (hb : Sml b) (h1 : LB (a.num * b.den) = true) (h2 : LB (b.num * a.den) = true) (w : World) :
    Calls Tryz.prog 146 #[.string (rq a), .string (rq b)] w (TwoB (rep (a.num * b.den)) (rep (b.num * a.den)) 0 w) := by
  have m1 := fun W => refmul_l ha.1 hb.2 rfl W
  have m2 := fun W => refmul_l hb.1 ha.2 rfl W
  rw [lT_ok h1, lC_ok h1] at m1
  rw [lT_ok h2, lC_ok h2] at m2
  exact cross_ok _ _ _ _ _ _ _ _ w (four_q ha hb) m1 m2
theorem cross_no {a b : Rat} (ha : Sml a) (hb : Sml b) (h : (LB (a.num * b.den) && LB (b.num * a.den)) = false) (w : World) :
    Calls Tryz.prog 146 #[.string (rq a), .string (rq b)] w (TwoB ⟨#[]⟩ ⟨#[]⟩ 14 w) := by
  have m1 := fun W => refmul_l ha.1 hb.2 rfl W
  have m2 := fun W => refmul_l hb.1 ha.2 rfl W
  cases h1 : LB (a.num * b.den)
  · exact cross_1 _ _ _ _ _ _ _ _ _ _ (by rw [lC_no h1]; decide) w (four_q ha hb) m1 m2
  · rw [h1] at h
    have h2 : LB (b.num * a.den) = false := h
    rw [lC_ok h1] at m1
    exact cross_2 _ _ _ _ _ _ _ _ _ (by rw [lC_no h2]; decide) w (four_q ha hb) m1 m2
theorem refradd_q {a b : Rat} (ha : Sml a) (hb : Sml b) (w : World) :
    Calls Tryz.prog 111 #[.string (rq a), .string (rq b)] w (StE (qT (addC a b) (a + b)) (addC a b) w) := by
  cases h1 : (LB (a.num * b.den) && LB (b.num * a.den))
  · have e : addC a b = 14 := by unfold addC; rw [h1]; rfl
    rw [e, qT_err (by decide)]
    exact rfadd_e _ _ _ _ _ (by decide) w (cross_no ha hb h1)
  · have ⟨k1, k2⟩ : LB (a.num * b.den) = true ∧ LB (b.num * a.den) = true := by simpa using h1
    refine rfadd_ok _ _ _ _ _ _ _ _ _ _ _ _ _ _ w (cross_q ha hb k1 k2) (four_q ha hb) (fun W => refadd_l (LB_true.1 k1) (LB_true.1 k2) rfl W) (fun W => refmul_l ha.2 hb.2 rfl W) (fun W => frac_l (den_mul_ne a b) (rat_add a b).symm _ ?_ W)
    unfold addC
    rw [h1, Bool.true_and, Bool.and_comm]
theorem refradd_any (s t : ByteArray) (hs : s.size ≤ 1048576) (ht : t.size ≤ 1048576) (w : World) :
    Calls Tryz.prog 111 #[.string s, .string t] w (StE (twT addC (· + ·) s.data.toList t.data.toList) (twC addC s.data.toList t.data.toList) w) := by
  rcases four_bad addC s t hs ht with ⟨h, H⟩ | ⟨a, b, rfl, rfl, ha, hb⟩
  · unfold twT
    rw [qT_err h]
    exact rfadd_e _ _ _ _ _ h w (fun W => cross_e _ _ _ _ _ _ _ h W H)
  · rw [twT_rq ha hb, twC_rq ha hb]
    exact refradd_q ha hb w
theorem rq_minus {q : Rat} (h : 0 < q.num) : (⟨#[45]⟩ : ByteArray) ++ rq q = rq (-q) := by
  obtain ⟨u, hu⟩ := Int.eq_ofNat_of_zero_le (show 0 ≤ q.num by omega)
  apply WideShapes.bytes_inj
  rw [show ((⟨#[45]⟩ : ByteArray) ++ rq q).data.toList = 45 :: (rq q).data.toList by simp, rq_data, rq_data, Rat.neg_num, Rat.neg_den, hu, itoa_neg u (by omega), itoa_pos]
  unfold txtL
  split <;> rfl
theorem rfneg_q {q : Rat} (h : Sml q) (w : World) : Calls Tryz.prog 151 #[.string (rq q)] w (StrR (rq (-q)) w) := by
  rcases Int.lt_trichotomy q.num 0 with h0 | h0 | h0
  · obtain ⟨⟨k0, k1⟩, k2⟩ := rq_neg_text q h0 _ rfl
    have e : absQ q = -q := by unfold absQ; rw [if_pos h0]
    rw [e] at k2
    exact rfneg_neg _ _ k0 k1 (by rw [rq_is_zero q _ rfl]; exact decide_eq_false (fun g => by rw [g] at h0; exact absurd h0 (by decide))) k2 w
  · have hq : q = 0 := Rat.num_eq_zero.1 h0
    rw [hq, show (-0 : Rat) = 0 from rfl, rq_zero]
    exact rfneg_zero w
  · obtain ⟨k0, k1⟩ := rq_pos_text q (by omega) _ rfl
    have hn : (-q).num < 0 := by rw [Rat.neg_num]; omega
    have e : absQ (-q) = q := by unfold absQ; rw [if_pos hn, Rat.neg_neg]
    have k2 := (rq_neg_text (-q) hn _ rfl).2
    rw [e] at k2
    refine rfneg_pos _ _ k0 k1 (by rw [rq_is_zero q _ rfl]; exact decide_eq_false (fun g => by rw [g] at h0; exact absurd h0 (by decide))) (by have := rq_size h; omega) (rq_minus h0) w
theorem sml_neg {q : Rat} (h : Sml q) : Sml (-q) := ⟨by rw [Rat.neg_num, Int.natAbs_neg]; exact h.1, by rw [Rat.neg_den]; exact h.2⟩
theorem LB_neg (z : Int) : LB (-z) = LB z := by unfold LB; rw [Int.natAbs_neg]
theorem addC_neg (a b : Rat) : addC a (-b) = subC a b := by
  unfold addC subC
  rw [Rat.neg_num, Rat.neg_den, Int.neg_mul, LB_neg, ← Int.sub_eq_add_neg]
theorem refrsub_any (s t : ByteArray) (hs : s.size ≤ 1048576) (ht : t.size ≤ 1048576) (w : World) :
    Calls Tryz.prog 112 #[.string s, .string t] w (StE (twT subC (· - ·) s.data.toList t.data.toList) (twC subC s.data.toList t.data.toList) w) := by
  rcases four_bad subC s t hs ht with ⟨h, H⟩ | ⟨a, b, rfl, rfl, ha, hb⟩
  · unfold twT
    rw [qT_err h]
    exact rfsub_e _ _ _ _ _ _ _ h w H
  · rw [twT_rq ha hb, twC_rq ha hb]
    refine rfsub_ok _ _ _ _ _ _ _ _ _ w (four_q ha hb) (rfneg_q hb) (fun W => ?_)
    have k := refradd_q ha (sml_neg hb) W
    rw [addC_neg, ← Rat.sub_eq_add_neg] at k
    exact k
theorem refrmul_any (s t : ByteArray) (hs : s.size ≤ 1048576) (ht : t.size ≤ 1048576) (w : World) :
    Calls Tryz.prog 113 #[.string s, .string t] w (StE (twT mulC (· * ·) s.data.toList t.data.toList) (twC mulC s.data.toList t.data.toList) w) := by
  rcases four_bad mulC s t hs ht with ⟨h, H⟩ | ⟨a, b, rfl, rfl, ha, hb⟩
  · unfold twT
    rw [qT_err h]
    exact rfmul_e _ _ _ _ _ _ _ h w H
  · rw [twT_rq ha hb, twC_rq ha hb]
    exact rfmul_ok _ _ _ _ _ _ _ _ _ _ _ _ w (four_q ha hb) (fun W => refmul_l ha.1 hb.1 rfl W) (fun W => refmul_l ha.2 hb.2 rfl W) (fun W => frac_l (den_mul_ne a b) (rat_mul a b).symm _ rfl W)
theorem refrcompare_any (s t : ByteArray) (hs : s.size ≤ 1048576) (ht : t.size ≤ 1048576) (w : World) :
    Calls Tryz.prog 114 #[.string s, .string t] w (CmE (twK s.data.toList t.data.toList) (twC comC s.data.toList t.data.toList) w) := by
  unfold twK
  rcases four_bad comC s t hs ht with ⟨h, H⟩ | ⟨a, b, rfl, rfl, ha, hb⟩
  · rw [if_neg h]
    exact rfcmp_e _ _ _ _ _ h w (fun W => cross_e _ _ _ _ _ _ _ h W H)
  · rw [twC_rq ha hb, qv_rq, qv_rq]
    cases h1 : (LB (a.num * b.den) && LB (b.num * a.den))
    · have e : comC a b = 14 := by unfold comC; rw [h1]; rfl
      rw [e, if_neg (by decide)]
      exact rfcmp_e _ _ _ _ _ (by decide) w (cross_no ha hb h1)
    · have ⟨k1, k2⟩ : LB (a.num * b.den) = true ∧ LB (b.num * a.den) = true := by simpa using h1
      have e : comC a b = 0 := by unfold comC; rw [h1]; rfl
      rw [e, if_pos rfl, ← cmpZ_rat]
      exact rfcmp_ok _ _ _ _ _ _ w (cross_q ha hb k1 k2) (refcmp_l (LB_true.1 k1) (LB_true.1 k2))
end Go.Proofs.YtceooffedkalnaaGreatDoor
/- The walks of the reference of layer 2: digits, Round. -/
namespace Go.Proofs.YtceooffedkalnaaGreatDoor
open Go Go.RowKit
end Go.Proofs.YtceooffedkalnaaGreatDoor
/- The reference of layer 2: what Round answers; Great of two. -/
namespace Go.Proofs.YtceooffedkalnaaGreatDoor
open Go Go.RowKit
end Go.Proofs.YtceooffedkalnaaGreatDoor
/- The walks of the reference of layer 2: Sum, raised, Power. -/
namespace Go.Proofs.YtceooffedkalnaaGreatDoor
open Go Go.RowKit
end Go.Proofs.YtceooffedkalnaaGreatDoor

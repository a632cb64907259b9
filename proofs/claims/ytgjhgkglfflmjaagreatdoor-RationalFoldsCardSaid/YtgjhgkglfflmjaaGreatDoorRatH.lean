/- The walks of the reference of layer 2: Check. -/
import Derived.Test.YtgjhgkglfflmjaaGreatDoorRatG
namespace Go.Proofs.YtgjhgkglfflmjaaGreatDoor
open Go Go.RowKit

theorem chk_len {l : List UInt8} (h : ¬ chk l = 12) : chk l = if 1000 < (bod l).length then 14 else 0 := by
  unfold chk at h ⊢
  split
  · next e => rw [e]; rfl
  · next e =>
    rw [if_neg e] at h
    split
    · rfl
    · next g => rw [if_neg g] at h; exact absurd rfl h
def WriR (n d : ByteArray) (w : World) (e : Ending) (w' : World) : Prop := e = .returned (.tuple #[.string n, .string d]) ∧ ∃ k, w' = w.drewN k
def DigR (n : Nat) (g : Bool) (w : World) (e : Ending) (w' : World) : Prop := ∃ A c, e = .returned (.tuple #[.slice A n c, .bool g, .bool true]) ∧ Below w.heap.size w w'
def DigN (w : World) (e : Ending) (w' : World) : Prop := e = .returned (.tuple #[.slice none 0 0, .bool false, .bool false]) ∧ Below w.heap.size w w'
def GcdR (g : ByteArray) (w : World) (e : Ending) (w' : World) : Prop := e = .returned (.tuple #[.string g, .int .i64 0]) ∧ Below w.heap.size w w'
def IntB (c : Int) (w : World) (e : Ending) (w' : World) : Prop := e = .returned (.int .i64 c) ∧ Below w.heap.size w w'
set_option maxRecDepth 100000 in
set_option maxHeartbeats 1600000 in
theorem cT0_0_n (s N D : ByteArray) (sl : Int) (nx ny : Nat) (gx : Bool) (w : World)
    (HW : ∀ W, Calls Tryz.prog 61 #[.string s] W (WriR N D W))
    (HS : ∀ W, Calls Tryz.prog 63 #[.string s] W (IntR sl W)) (_hsl : 0 ≤ sl)
    (HX : ∀ W, Calls Tryz.prog 62 #[.string N] W (DigR nx gx W))
    (HY : ∀ W, Calls Tryz.prog 62 #[.string D] W (DigR ny true W)) (hx : nx ≤ 1000) (hy : ny ≤ 1000) : Calls Tryz.prog 27 #[.string s] w (IntB 12 w) := by
  have JW := Lib.hid HW
  have JS := Lib.hid HS
  have JX := Lib.hid HX
  have JY := Lib.hid HY
  clear HW HS HX HY
  have hx' : ¬ 1000 < nx := by omega
  have hy' : ¬ 1000 < ny := by omega
  go_enter Tryz.func27, Tryz.ntmps27
  go_wp2_with (first
    | (go_at_call 61; refine (JW.out _).mono ?_; rintro e w1 ⟨rfl, k, rfl⟩; have b1 := below_drewN (Below.refl w.heap.size w) k)
    | (go_at_call 62; (with_reducible refine (JX.out _).mono ?_); rintro e w2 ⟨AX, cx, rfl, b⟩; have b2 := bt b1 b; clear b)
    | (go_at_call 62; (with_reducible refine (JY.out _).mono ?_); rintro e w3 ⟨AY, cy, rfl, b⟩; have b3 := bt b2 b; clear b)
    | (go_at_call 63; refine (JS.out _).mono ?_; rintro e w4 ⟨rfl, rfl⟩))
  go_ret
  exact ⟨rfl, b3⟩
set_option maxRecDepth 100000 in
set_option maxHeartbeats 1600000 in
theorem cT0_0_z (s N D : ByteArray) (sl : Int) (nx ny : Nat) (gx : Bool) (w : World)
    (HW : ∀ W, Calls Tryz.prog 61 #[.string s] W (WriR N D W))
    (HS : ∀ W, Calls Tryz.prog 63 #[.string s] W (IntR sl W)) (_hsl : 0 ≤ sl)
    (HX : ∀ W, Calls Tryz.prog 62 #[.string N] W (DigR nx gx W))
    (HY : ∀ W, Calls Tryz.prog 62 #[.string D] W (DigR ny false W)) (hx : nx ≤ 1000) (hy : ny ≤ 1000) (hz : (D.toList == [48]) = true) : Calls Tryz.prog 27 #[.string s] w (IntB 12 w) := by
  have JW := Lib.hid HW
  have JS := Lib.hid HS
  have JX := Lib.hid HX
  have JY := Lib.hid HY
  clear HW HS HX HY
  have hx' : ¬ 1000 < nx := by omega
  have hy' : ¬ 1000 < ny := by omega
  go_enter Tryz.func27, Tryz.ntmps27
  go_wp2_with (first
    | (go_at_call 61; refine (JW.out _).mono ?_; rintro e w1 ⟨rfl, k, rfl⟩; have b1 := below_drewN (Below.refl w.heap.size w) k)
    | (go_at_call 62; (with_reducible refine (JX.out _).mono ?_); rintro e w2 ⟨AX, cx, rfl, b⟩; have b2 := bt b1 b; clear b)
    | (go_at_call 62; (with_reducible refine (JY.out _).mono ?_); rintro e w3 ⟨AY, cy, rfl, b⟩; have b3 := bt b2 b; clear b)
    | (go_at_call 63; refine (JS.out _).mono ?_; rintro e w4 ⟨rfl, rfl⟩))
  go_ret
  exact ⟨rfl, b3⟩
set_option maxRecDepth 100000 in
set_option maxHeartbeats 1600000 in
theorem cT0_0_o (s N D : ByteArray) (sl : Int) (nx ny : Nat) (gx : Bool) (w : World)
    (HW : ∀ W, Calls Tryz.prog 61 #[.string s] W (WriR N D W))
    (HS : ∀ W, Calls Tryz.prog 63 #[.string s] W (IntR sl W)) (hsl : 0 ≤ sl)
    (HX : ∀ W, Calls Tryz.prog 62 #[.string N] W (DigR nx gx W))
    (HY : ∀ W, Calls Tryz.prog 62 #[.string D] W (DigR ny false W)) (hx : nx ≤ 1000) (hy : ny ≤ 1000) (hz : (D.toList == [48]) = false) (ho : (D.toList == [49]) = true) : Calls Tryz.prog 27 #[.string s] w (IntB 12 w) := by
  have JW := Lib.hid HW
  have JS := Lib.hid HS
  have JX := Lib.hid HX
  have JY := Lib.hid HY
  clear HW HS HX HY
  have hx' : ¬ 1000 < nx := by omega
  have hy' : ¬ 1000 < ny := by omega
  go_enter Tryz.func27, Tryz.ntmps27
  go_wp2_with (first
    | (go_at_call 61; refine (JW.out _).mono ?_; rintro e w1 ⟨rfl, k, rfl⟩; have b1 := below_drewN (Below.refl w.heap.size w) k)
    | (go_at_call 62; (with_reducible refine (JX.out _).mono ?_); rintro e w2 ⟨AX, cx, rfl, b⟩; have b2 := bt b1 b; clear b)
    | (go_at_call 62; (with_reducible refine (JY.out _).mono ?_); rintro e w3 ⟨AY, cy, rfl, b⟩; have b3 := bt b2 b; clear b)
    | (go_at_call 63; refine (JS.out _).mono ?_; rintro e w4 ⟨rfl, rfl⟩))
  go_ret
  exact ⟨rfl, b3⟩
set_option maxRecDepth 100000 in
set_option maxHeartbeats 1600000 in
theorem cT0_0_g (s N D G : ByteArray) (sl : Int) (nx ny : Nat) (gx : Bool) (w : World)
    (HW : ∀ W, Calls Tryz.prog 61 #[.string s] W (WriR N D W))
    (HS : ∀ W, Calls Tryz.prog 63 #[.string s] W (IntR sl W)) (hsl : 0 ≤ sl)
    (HX : ∀ W, Calls Tryz.prog 62 #[.string N] W (DigR nx gx W))
    (HY : ∀ W, Calls Tryz.prog 62 #[.string D] W (DigR ny false W)) (hx : nx ≤ 1000) (hy : ny ≤ 1000) (hz : (D.toList == [48]) = false) (ho : (D.toList == [49]) = false)
    (HG : ∀ W, Calls Tryz.prog 64 #[.string N, .string D] W (GcdR G W)) (hG : (G.toList == [49]) = true) : Calls Tryz.prog 27 #[.string s] w (IntB 0 w) := by
  have JW := Lib.hid HW
  have JS := Lib.hid HS
  have JX := Lib.hid HX
  have JY := Lib.hid HY
  have JG := Lib.hid HG
  clear HW HS HX HY HG
  have hx' : ¬ 1000 < nx := by omega
  have hy' : ¬ 1000 < ny := by omega
  go_enter Tryz.func27, Tryz.ntmps27
  go_wp2_with (first
    | (go_at_call 61; refine (JW.out _).mono ?_; rintro e w1 ⟨rfl, k, rfl⟩; have b1 := below_drewN (Below.refl w.heap.size w) k)
    | (go_at_call 62; (with_reducible refine (JX.out _).mono ?_); rintro e w2 ⟨AX, cx, rfl, b⟩; have b2 := bt b1 b; clear b)
    | (go_at_call 62; (with_reducible refine (JY.out _).mono ?_); rintro e w3 ⟨AY, cy, rfl, b⟩; have b3 := bt b2 b; clear b)
    | (go_at_call 63; refine (JS.out _).mono ?_; rintro e w4 ⟨rfl, rfl⟩)
    | (go_at_call 64; refine (JG.out _).mono ?_; rintro e w5 ⟨rfl, b⟩; have b4 := bt b3 b; clear b))
  go_ret
  exact ⟨rfl, b4⟩
set_option maxRecDepth 100000 in
set_option maxHeartbeats 1600000 in
theorem cT0_0_h (s N D G : ByteArray) (sl : Int) (nx ny : Nat) (gx : Bool) (w : World)
    (HW : ∀ W, Calls Tryz.prog 61 #[.string s] W (WriR N D W))
    (HS : ∀ W, Calls Tryz.prog 63 #[.string s] W (IntR sl W)) (hsl : 0 ≤ sl)
    (HX : ∀ W, Calls Tryz.prog 62 #[.string N] W (DigR nx gx W))
    (HY : ∀ W, Calls Tryz.prog 62 #[.string D] W (DigR ny false W)) (hx : nx ≤ 1000) (hy : ny ≤ 1000) (hz : (D.toList == [48]) = false) (ho : (D.toList == [49]) = false)
    (HG : ∀ W, Calls Tryz.prog 64 #[.string N, .string D] W (GcdR G W)) (hG : (G.toList == [49]) = false) : Calls Tryz.prog 27 #[.string s] w (IntB 12 w) := by
  have JW := Lib.hid HW
  have JS := Lib.hid HS
  have JX := Lib.hid HX
  have JY := Lib.hid HY
  have JG := Lib.hid HG
  clear HW HS HX HY HG
  have hx' : ¬ 1000 < nx := by omega
  have hy' : ¬ 1000 < ny := by omega
  go_enter Tryz.func27, Tryz.ntmps27
  go_wp2_with (first
    | (go_at_call 61; refine (JW.out _).mono ?_; rintro e w1 ⟨rfl, k, rfl⟩; have b1 := below_drewN (Below.refl w.heap.size w) k)
    | (go_at_call 62; (with_reducible refine (JX.out _).mono ?_); rintro e w2 ⟨AX, cx, rfl, b⟩; have b2 := bt b1 b; clear b)
    | (go_at_call 62; (with_reducible refine (JY.out _).mono ?_); rintro e w3 ⟨AY, cy, rfl, b⟩; have b3 := bt b2 b; clear b)
    | (go_at_call 63; refine (JS.out _).mono ?_; rintro e w4 ⟨rfl, rfl⟩)
    | (go_at_call 64; refine (JG.out _).mono ?_; rintro e w5 ⟨rfl, b⟩; have b4 := bt b3 b; clear b))
  go_ret
  exact ⟨rfl, b4⟩
set_option maxRecDepth 100000 in
set_option maxHeartbeats 1600000 in
theorem cT0_12 (s N D : ByteArray) (sl : Int) (nx : Nat) (gx : Bool) (w : World)
    (HW : ∀ W, Calls Tryz.prog 61 #[.string s] W (WriR N D W))
    (HS : ∀ W, Calls Tryz.prog 63 #[.string s] W (IntR sl W)) (_hsl : 0 ≤ sl)
    (HX : ∀ W, Calls Tryz.prog 62 #[.string N] W (DigR nx gx W))
    (HY : ∀ W, Calls Tryz.prog 62 #[.string D] W (DigN W)) (hx : nx ≤ 1000) : Calls Tryz.prog 27 #[.string s] w (IntB 12 w) := by
  have JW := Lib.hid HW
  have JS := Lib.hid HS
  have JX := Lib.hid HX
  have JY := Lib.hid HY
  clear HW HS HX HY
  have hx' : ¬ 1000 < nx := by omega
  go_enter Tryz.func27, Tryz.ntmps27
  go_wp2_with (first
    | (go_at_call 61; refine (JW.out _).mono ?_; rintro e w1 ⟨rfl, k, rfl⟩; have b1 := below_drewN (Below.refl w.heap.size w) k)
    | (go_at_call 62; (with_reducible refine (JX.out _).mono ?_); rintro e w2 ⟨AX, cx, rfl, b⟩; have b2 := bt b1 b; clear b)
    | (go_at_call 62; (with_reducible refine (JY.out _).mono ?_); rintro e w3 ⟨rfl, b⟩; have b3 := bt b2 b; clear b)
    | (go_at_call 63; refine (JS.out _).mono ?_; rintro e w4 ⟨rfl, rfl⟩))
  go_ret
  exact ⟨rfl, b3⟩
set_option maxRecDepth 100000 in
set_option maxHeartbeats 1600000 in
theorem cT0_14_n (s N D : ByteArray) (sl : Int) (nx ny : Nat) (gx : Bool) (w : World)
    (HW : ∀ W, Calls Tryz.prog 61 #[.string s] W (WriR N D W))
    (HS : ∀ W, Calls Tryz.prog 63 #[.string s] W (IntR sl W)) (_hsl : 0 ≤ sl)
    (HX : ∀ W, Calls Tryz.prog 62 #[.string N] W (DigR nx gx W))
    (HY : ∀ W, Calls Tryz.prog 62 #[.string D] W (DigR ny true W)) (hx : nx ≤ 1000) (_hy : 1000 < ny) : Calls Tryz.prog 27 #[.string s] w (IntB 12 w) := by
  have JW := Lib.hid HW
  have JS := Lib.hid HS
  have JX := Lib.hid HX
  have JY := Lib.hid HY
  clear HW HS HX HY
  have hx' : ¬ 1000 < nx := by omega
  go_enter Tryz.func27, Tryz.ntmps27
  go_wp2_with (first
    | (go_at_call 61; refine (JW.out _).mono ?_; rintro e w1 ⟨rfl, k, rfl⟩; have b1 := below_drewN (Below.refl w.heap.size w) k)
    | (go_at_call 62; (with_reducible refine (JX.out _).mono ?_); rintro e w2 ⟨AX, cx, rfl, b⟩; have b2 := bt b1 b; clear b)
    | (go_at_call 62; (with_reducible refine (JY.out _).mono ?_); rintro e w3 ⟨AY, cy, rfl, b⟩; have b3 := bt b2 b; clear b)
    | (go_at_call 63; refine (JS.out _).mono ?_; rintro e w4 ⟨rfl, rfl⟩))
  go_ret
  exact ⟨rfl, b3⟩
set_option maxRecDepth 100000 in
set_option maxHeartbeats 1600000 in
theorem cT0_14_z (s N D : ByteArray) (sl : Int) (nx ny : Nat) (gx : Bool) (w : World)
    (HW : ∀ W, Calls Tryz.prog 61 #[.string s] W (WriR N D W))
    (HS : ∀ W, Calls Tryz.prog 63 #[.string s] W (IntR sl W)) (_hsl : 0 ≤ sl)
    (HX : ∀ W, Calls Tryz.prog 62 #[.string N] W (DigR nx gx W))
    (HY : ∀ W, Calls Tryz.prog 62 #[.string D] W (DigR ny false W)) (hx : nx ≤ 1000) (_hy : 1000 < ny) (hz : (D.toList == [48]) = true) : Calls Tryz.prog 27 #[.string s] w (IntB 12 w) := by
  have JW := Lib.hid HW
  have JS := Lib.hid HS
  have JX := Lib.hid HX
  have JY := Lib.hid HY
  clear HW HS HX HY
  have hx' : ¬ 1000 < nx := by omega
  go_enter Tryz.func27, Tryz.ntmps27
  go_wp2_with (first
    | (go_at_call 61; refine (JW.out _).mono ?_; rintro e w1 ⟨rfl, k, rfl⟩; have b1 := below_drewN (Below.refl w.heap.size w) k)
    | (go_at_call 62; (with_reducible refine (JX.out _).mono ?_); rintro e w2 ⟨AX, cx, rfl, b⟩; have b2 := bt b1 b; clear b)
    | (go_at_call 62; (with_reducible refine (JY.out _).mono ?_); rintro e w3 ⟨AY, cy, rfl, b⟩; have b3 := bt b2 b; clear b)
    | (go_at_call 63; refine (JS.out _).mono ?_; rintro e w4 ⟨rfl, rfl⟩))
  go_ret
  exact ⟨rfl, b3⟩
set_option maxRecDepth 100000 in
set_option maxHeartbeats 1600000 in
theorem cT0_14_o (s N D : ByteArray) (sl : Int) (nx ny : Nat) (gx : Bool) (w : World)
    (HW : ∀ W, Calls Tryz.prog 61 #[.string s] W (WriR N D W))
    (HS : ∀ W, Calls Tryz.prog 63 #[.string s] W (IntR sl W)) (hsl : 0 ≤ sl)
    (HX : ∀ W, Calls Tryz.prog 62 #[.string N] W (DigR nx gx W))
    (HY : ∀ W, Calls Tryz.prog 62 #[.string D] W (DigR ny false W)) (hx : nx ≤ 1000) (_hy : 1000 < ny) (hz : (D.toList == [48]) = false) (ho : (D.toList == [49]) = true) : Calls Tryz.prog 27 #[.string s] w (IntB 12 w) := by
  have JW := Lib.hid HW
  have JS := Lib.hid HS
  have JX := Lib.hid HX
  have JY := Lib.hid HY
  clear HW HS HX HY
  have hx' : ¬ 1000 < nx := by omega
  go_enter Tryz.func27, Tryz.ntmps27
  go_wp2_with (first
    | (go_at_call 61; refine (JW.out _).mono ?_; rintro e w1 ⟨rfl, k, rfl⟩; have b1 := below_drewN (Below.refl w.heap.size w) k)
    | (go_at_call 62; (with_reducible refine (JX.out _).mono ?_); rintro e w2 ⟨AX, cx, rfl, b⟩; have b2 := bt b1 b; clear b)
    | (go_at_call 62; (with_reducible refine (JY.out _).mono ?_); rintro e w3 ⟨AY, cy, rfl, b⟩; have b3 := bt b2 b; clear b)
    | (go_at_call 63; refine (JS.out _).mono ?_; rintro e w4 ⟨rfl, rfl⟩))
  go_ret
  exact ⟨rfl, b3⟩
set_option maxRecDepth 100000 in
set_option maxHeartbeats 1600000 in
theorem cT0_14_k (s N D : ByteArray) (sl : Int) (nx ny : Nat) (gx : Bool) (w : World)
    (HW : ∀ W, Calls Tryz.prog 61 #[.string s] W (WriR N D W))
    (HS : ∀ W, Calls Tryz.prog 63 #[.string s] W (IntR sl W)) (hsl : 0 ≤ sl)
    (HX : ∀ W, Calls Tryz.prog 62 #[.string N] W (DigR nx gx W))
    (HY : ∀ W, Calls Tryz.prog 62 #[.string D] W (DigR ny false W)) (hx : nx ≤ 1000) (hy : 1000 < ny) (hz : (D.toList == [48]) = false) (ho : (D.toList == [49]) = false) : Calls Tryz.prog 27 #[.string s] w (IntB 14 w) := by
  have JW := Lib.hid HW
  have JS := Lib.hid HS
  have JX := Lib.hid HX
  have JY := Lib.hid HY
  clear HW HS HX HY
  have hx' : ¬ 1000 < nx := by omega
  go_enter Tryz.func27, Tryz.ntmps27
  go_wp2_with (first
    | (go_at_call 61; refine (JW.out _).mono ?_; rintro e w1 ⟨rfl, k, rfl⟩; have b1 := below_drewN (Below.refl w.heap.size w) k)
    | (go_at_call 62; (with_reducible refine (JX.out _).mono ?_); rintro e w2 ⟨AX, cx, rfl, b⟩; have b2 := bt b1 b; clear b)
    | (go_at_call 62; (with_reducible refine (JY.out _).mono ?_); rintro e w3 ⟨AY, cy, rfl, b⟩; have b3 := bt b2 b; clear b)
    | (go_at_call 63; refine (JS.out _).mono ?_; rintro e w4 ⟨rfl, rfl⟩))
  go_ret
  exact ⟨rfl, b3⟩
set_option maxRecDepth 100000 in
set_option maxHeartbeats 1600000 in
theorem cT12_0_n (s N D : ByteArray) (sl : Int) (ny : Nat) (w : World)
    (HW : ∀ W, Calls Tryz.prog 61 #[.string s] W (WriR N D W))
    (HS : ∀ W, Calls Tryz.prog 63 #[.string s] W (IntR sl W)) (_hsl : 0 ≤ sl)
    (HX : ∀ W, Calls Tryz.prog 62 #[.string N] W (DigN W))
    (HY : ∀ W, Calls Tryz.prog 62 #[.string D] W (DigR ny true W)) (hy : ny ≤ 1000) : Calls Tryz.prog 27 #[.string s] w (IntB 12 w) := by
  have JW := Lib.hid HW
  have JS := Lib.hid HS
  have JX := Lib.hid HX
  have JY := Lib.hid HY
  clear HW HS HX HY
  have hy' : ¬ 1000 < ny := by omega
  go_enter Tryz.func27, Tryz.ntmps27
  go_wp2_with (first
    | (go_at_call 61; refine (JW.out _).mono ?_; rintro e w1 ⟨rfl, k, rfl⟩; have b1 := below_drewN (Below.refl w.heap.size w) k)
    | (go_at_call 62; (with_reducible refine (JX.out _).mono ?_); rintro e w2 ⟨rfl, b⟩; have b2 := bt b1 b; clear b)
    | (go_at_call 62; (with_reducible refine (JY.out _).mono ?_); rintro e w3 ⟨AY, cy, rfl, b⟩; have b3 := bt b2 b; clear b)
    | (go_at_call 63; refine (JS.out _).mono ?_; rintro e w4 ⟨rfl, rfl⟩))
  go_ret
  exact ⟨rfl, b3⟩
set_option maxRecDepth 100000 in
set_option maxHeartbeats 1600000 in
theorem cT12_0_z (s N D : ByteArray) (sl : Int) (ny : Nat) (w : World)
    (HW : ∀ W, Calls Tryz.prog 61 #[.string s] W (WriR N D W))
    (HS : ∀ W, Calls Tryz.prog 63 #[.string s] W (IntR sl W)) (_hsl : 0 ≤ sl)
    (HX : ∀ W, Calls Tryz.prog 62 #[.string N] W (DigN W))
    (HY : ∀ W, Calls Tryz.prog 62 #[.string D] W (DigR ny false W)) (hy : ny ≤ 1000) (_hz : (D.toList == [48]) = true) : Calls Tryz.prog 27 #[.string s] w (IntB 12 w) := by
  have JW := Lib.hid HW
  have JS := Lib.hid HS
  have JX := Lib.hid HX
  have JY := Lib.hid HY
  clear HW HS HX HY
  have hy' : ¬ 1000 < ny := by omega
  go_enter Tryz.func27, Tryz.ntmps27
  go_wp2_with (first
    | (go_at_call 61; refine (JW.out _).mono ?_; rintro e w1 ⟨rfl, k, rfl⟩; have b1 := below_drewN (Below.refl w.heap.size w) k)
    | (go_at_call 62; (with_reducible refine (JX.out _).mono ?_); rintro e w2 ⟨rfl, b⟩; have b2 := bt b1 b; clear b)
    | (go_at_call 62; (with_reducible refine (JY.out _).mono ?_); rintro e w3 ⟨AY, cy, rfl, b⟩; have b3 := bt b2 b; clear b)
    | (go_at_call 63; refine (JS.out _).mono ?_; rintro e w4 ⟨rfl, rfl⟩))
  go_ret
  exact ⟨rfl, b3⟩
set_option maxRecDepth 100000 in
set_option maxHeartbeats 1600000 in
theorem cT12_0_o (s N D : ByteArray) (sl : Int) (ny : Nat) (w : World)
    (HW : ∀ W, Calls Tryz.prog 61 #[.string s] W (WriR N D W))
    (HS : ∀ W, Calls Tryz.prog 63 #[.string s] W (IntR sl W)) (_hsl : 0 ≤ sl)
    (HX : ∀ W, Calls Tryz.prog 62 #[.string N] W (DigN W))
    (HY : ∀ W, Calls Tryz.prog 62 #[.string D] W (DigR ny false W)) (hy : ny ≤ 1000) (_hz : (D.toList == [48]) = false) (_ho : (D.toList == [49]) = true) : Calls Tryz.prog 27 #[.string s] w (IntB 12 w) := by
  have JW := Lib.hid HW
  have JS := Lib.hid HS
  have JX := Lib.hid HX
  have JY := Lib.hid HY
  clear HW HS HX HY
  have hy' : ¬ 1000 < ny := by omega
  go_enter Tryz.func27, Tryz.ntmps27
  go_wp2_with (first
    | (go_at_call 61; refine (JW.out _).mono ?_; rintro e w1 ⟨rfl, k, rfl⟩; have b1 := below_drewN (Below.refl w.heap.size w) k)
    | (go_at_call 62; (with_reducible refine (JX.out _).mono ?_); rintro e w2 ⟨rfl, b⟩; have b2 := bt b1 b; clear b)
    | (go_at_call 62; (with_reducible refine (JY.out _).mono ?_); rintro e w3 ⟨AY, cy, rfl, b⟩; have b3 := bt b2 b; clear b)
    | (go_at_call 63; refine (JS.out _).mono ?_; rintro e w4 ⟨rfl, rfl⟩))
  go_ret
  exact ⟨rfl, b3⟩
set_option maxRecDepth 100000 in
set_option maxHeartbeats 1600000 in
theorem cT12_0_k (s N D : ByteArray) (sl : Int) (ny : Nat) (w : World)
    (HW : ∀ W, Calls Tryz.prog 61 #[.string s] W (WriR N D W))
    (HS : ∀ W, Calls Tryz.prog 63 #[.string s] W (IntR sl W)) (_hsl : 0 ≤ sl)
    (HX : ∀ W, Calls Tryz.prog 62 #[.string N] W (DigN W))
    (HY : ∀ W, Calls Tryz.prog 62 #[.string D] W (DigR ny false W)) (hy : ny ≤ 1000) (_hz : (D.toList == [48]) = false) (_ho : (D.toList == [49]) = false) : Calls Tryz.prog 27 #[.string s] w (IntB 12 w) := by
  have JW := Lib.hid HW
  have JS := Lib.hid HS
  have JX := Lib.hid HX
  have JY := Lib.hid HY
  clear HW HS HX HY
  have hy' : ¬ 1000 < ny := by omega
  go_enter Tryz.func27, Tryz.ntmps27
  go_wp2_with (first
    | (go_at_call 61; refine (JW.out _).mono ?_; rintro e w1 ⟨rfl, k, rfl⟩; have b1 := below_drewN (Below.refl w.heap.size w) k)
    | (go_at_call 62; (with_reducible refine (JX.out _).mono ?_); rintro e w2 ⟨rfl, b⟩; have b2 := bt b1 b; clear b)
    | (go_at_call 62; (with_reducible refine (JY.out _).mono ?_); rintro e w3 ⟨AY, cy, rfl, b⟩; have b3 := bt b2 b; clear b)
    | (go_at_call 63; refine (JS.out _).mono ?_; rintro e w4 ⟨rfl, rfl⟩))
  go_ret
  exact ⟨rfl, b3⟩
set_option maxRecDepth 100000 in
set_option maxHeartbeats 1600000 in
theorem cT12_12 (s N D : ByteArray) (sl : Int) (w : World)
    (HW : ∀ W, Calls Tryz.prog 61 #[.string s] W (WriR N D W))
    (HS : ∀ W, Calls Tryz.prog 63 #[.string s] W (IntR sl W)) (_hsl : 0 ≤ sl)
    (HX : ∀ W, Calls Tryz.prog 62 #[.string N] W (DigN W))
    (HY : ∀ W, Calls Tryz.prog 62 #[.string D] W (DigN W)) : Calls Tryz.prog 27 #[.string s] w (IntB 12 w) := by
  have JW := Lib.hid HW
  have JS := Lib.hid HS
  have JX := Lib.hid HX
  have JY := Lib.hid HY
  clear HW HS HX HY
  go_enter Tryz.func27, Tryz.ntmps27
  go_wp2_with (first
    | (go_at_call 61; refine (JW.out _).mono ?_; rintro e w1 ⟨rfl, k, rfl⟩; have b1 := below_drewN (Below.refl w.heap.size w) k)
    | (go_at_call 62; (with_reducible refine (JX.out _).mono ?_); rintro e w2 ⟨rfl, b⟩; have b2 := bt b1 b; clear b)
    | (go_at_call 62; (with_reducible refine (JY.out _).mono ?_); rintro e w3 ⟨rfl, b⟩; have b3 := bt b2 b; clear b)
    | (go_at_call 63; refine (JS.out _).mono ?_; rintro e w4 ⟨rfl, rfl⟩))
  go_ret
  exact ⟨rfl, b3⟩
set_option maxRecDepth 100000 in
set_option maxHeartbeats 1600000 in
theorem cT12_14_n (s N D : ByteArray) (sl : Int) (ny : Nat) (w : World)
    (HW : ∀ W, Calls Tryz.prog 61 #[.string s] W (WriR N D W))
    (HS : ∀ W, Calls Tryz.prog 63 #[.string s] W (IntR sl W)) (_hsl : 0 ≤ sl)
    (HX : ∀ W, Calls Tryz.prog 62 #[.string N] W (DigN W))
    (HY : ∀ W, Calls Tryz.prog 62 #[.string D] W (DigR ny true W)) (_hy : 1000 < ny) : Calls Tryz.prog 27 #[.string s] w (IntB 12 w) := by
  have JW := Lib.hid HW
  have JS := Lib.hid HS
  have JX := Lib.hid HX
  have JY := Lib.hid HY
  clear HW HS HX HY
  go_enter Tryz.func27, Tryz.ntmps27
  go_wp2_with (first
    | (go_at_call 61; refine (JW.out _).mono ?_; rintro e w1 ⟨rfl, k, rfl⟩; have b1 := below_drewN (Below.refl w.heap.size w) k)
    | (go_at_call 62; (with_reducible refine (JX.out _).mono ?_); rintro e w2 ⟨rfl, b⟩; have b2 := bt b1 b; clear b)
    | (go_at_call 62; (with_reducible refine (JY.out _).mono ?_); rintro e w3 ⟨AY, cy, rfl, b⟩; have b3 := bt b2 b; clear b)
    | (go_at_call 63; refine (JS.out _).mono ?_; rintro e w4 ⟨rfl, rfl⟩))
  go_ret
  exact ⟨rfl, b3⟩
set_option maxRecDepth 100000 in
set_option maxHeartbeats 1600000 in
theorem cT12_14_z (s N D : ByteArray) (sl : Int) (ny : Nat) (w : World)
    (HW : ∀ W, Calls Tryz.prog 61 #[.string s] W (WriR N D W))
    (HS : ∀ W, Calls Tryz.prog 63 #[.string s] W (IntR sl W)) (_hsl : 0 ≤ sl)
    (HX : ∀ W, Calls Tryz.prog 62 #[.string N] W (DigN W))
    (HY : ∀ W, Calls Tryz.prog 62 #[.string D] W (DigR ny false W)) (_hy : 1000 < ny) (_hz : (D.toList == [48]) = true) : Calls Tryz.prog 27 #[.string s] w (IntB 12 w) := by
  have JW := Lib.hid HW
  have JS := Lib.hid HS
  have JX := Lib.hid HX
  have JY := Lib.hid HY
  clear HW HS HX HY
  go_enter Tryz.func27, Tryz.ntmps27
  go_wp2_with (first
    | (go_at_call 61; refine (JW.out _).mono ?_; rintro e w1 ⟨rfl, k, rfl⟩; have b1 := below_drewN (Below.refl w.heap.size w) k)
    | (go_at_call 62; (with_reducible refine (JX.out _).mono ?_); rintro e w2 ⟨rfl, b⟩; have b2 := bt b1 b; clear b)
    | (go_at_call 62; (with_reducible refine (JY.out _).mono ?_); rintro e w3 ⟨AY, cy, rfl, b⟩; have b3 := bt b2 b; clear b)
    | (go_at_call 63; refine (JS.out _).mono ?_; rintro e w4 ⟨rfl, rfl⟩))
  go_ret
  exact ⟨rfl, b3⟩
set_option maxRecDepth 100000 in
set_option maxHeartbeats 1600000 in
theorem cT12_14_o (s N D : ByteArray) (sl : Int) (ny : Nat) (w : World)
    (HW : ∀ W, Calls Tryz.prog 61 #[.string s] W (WriR N D W))
    (HS : ∀ W, Calls Tryz.prog 63 #[.string s] W (IntR sl W)) (_hsl : 0 ≤ sl)
    (HX : ∀ W, Calls Tryz.prog 62 #[.string N] W (DigN W))
    (HY : ∀ W, Calls Tryz.prog 62 #[.string D] W (DigR ny false W)) (_hy : 1000 < ny) (_hz : (D.toList == [48]) = false) (_ho : (D.toList == [49]) = true) : Calls Tryz.prog 27 #[.string s] w (IntB 12 w) := by
  have JW := Lib.hid HW
  have JS := Lib.hid HS
  have JX := Lib.hid HX
  have JY := Lib.hid HY
  clear HW HS HX HY
  go_enter Tryz.func27, Tryz.ntmps27
  go_wp2_with (first
    | (go_at_call 61; refine (JW.out _).mono ?_; rintro e w1 ⟨rfl, k, rfl⟩; have b1 := below_drewN (Below.refl w.heap.size w) k)
    | (go_at_call 62; (with_reducible refine (JX.out _).mono ?_); rintro e w2 ⟨rfl, b⟩; have b2 := bt b1 b; clear b)
    | (go_at_call 62; (with_reducible refine (JY.out _).mono ?_); rintro e w3 ⟨AY, cy, rfl, b⟩; have b3 := bt b2 b; clear b)
    | (go_at_call 63; refine (JS.out _).mono ?_; rintro e w4 ⟨rfl, rfl⟩))
  go_ret
  exact ⟨rfl, b3⟩
set_option maxRecDepth 100000 in
set_option maxHeartbeats 1600000 in
theorem cT12_14_k (s N D : ByteArray) (sl : Int) (ny : Nat) (w : World)
    (HW : ∀ W, Calls Tryz.prog 61 #[.string s] W (WriR N D W))
    (HS : ∀ W, Calls Tryz.prog 63 #[.string s] W (IntR sl W)) (_hsl : 0 ≤ sl)
    (HX : ∀ W, Calls Tryz.prog 62 #[.string N] W (DigN W))
    (HY : ∀ W, Calls Tryz.prog 62 #[.string D] W (DigR ny false W)) (_hy : 1000 < ny) (_hz : (D.toList == [48]) = false) (_ho : (D.toList == [49]) = false) : Calls Tryz.prog 27 #[.string s] w (IntB 12 w) := by
  have JW := Lib.hid HW
  have JS := Lib.hid HS
  have JX := Lib.hid HX
  have JY := Lib.hid HY
  clear HW HS HX HY
  go_enter Tryz.func27, Tryz.ntmps27
  go_wp2_with (first
    | (go_at_call 61; refine (JW.out _).mono ?_; rintro e w1 ⟨rfl, k, rfl⟩; have b1 := below_drewN (Below.refl w.heap.size w) k)
    | (go_at_call 62; (with_reducible refine (JX.out _).mono ?_); rintro e w2 ⟨rfl, b⟩; have b2 := bt b1 b; clear b)
    | (go_at_call 62; (with_reducible refine (JY.out _).mono ?_); rintro e w3 ⟨AY, cy, rfl, b⟩; have b3 := bt b2 b; clear b)
    | (go_at_call 63; refine (JS.out _).mono ?_; rintro e w4 ⟨rfl, rfl⟩))
  go_ret
  exact ⟨rfl, b3⟩
set_option maxRecDepth 100000 in
set_option maxHeartbeats 1600000 in
theorem cT14_0_n (s N D : ByteArray) (sl : Int) (nx ny : Nat) (gx : Bool) (w : World)
    (HW : ∀ W, Calls Tryz.prog 61 #[.string s] W (WriR N D W))
    (HS : ∀ W, Calls Tryz.prog 63 #[.string s] W (IntR sl W)) (_hsl : 0 ≤ sl)
    (HX : ∀ W, Calls Tryz.prog 62 #[.string N] W (DigR nx gx W))
    (HY : ∀ W, Calls Tryz.prog 62 #[.string D] W (DigR ny true W)) (_hx : 1000 < nx) (hy : ny ≤ 1000) : Calls Tryz.prog 27 #[.string s] w (IntB 12 w) := by
  have JW := Lib.hid HW
  have JS := Lib.hid HS
  have JX := Lib.hid HX
  have JY := Lib.hid HY
  clear HW HS HX HY
  have hy' : ¬ 1000 < ny := by omega
  go_enter Tryz.func27, Tryz.ntmps27
  go_wp2_with (first
    | (go_at_call 61; refine (JW.out _).mono ?_; rintro e w1 ⟨rfl, k, rfl⟩; have b1 := below_drewN (Below.refl w.heap.size w) k)
    | (go_at_call 62; (with_reducible refine (JX.out _).mono ?_); rintro e w2 ⟨AX, cx, rfl, b⟩; have b2 := bt b1 b; clear b)
    | (go_at_call 62; (with_reducible refine (JY.out _).mono ?_); rintro e w3 ⟨AY, cy, rfl, b⟩; have b3 := bt b2 b; clear b)
    | (go_at_call 63; refine (JS.out _).mono ?_; rintro e w4 ⟨rfl, rfl⟩))
  go_ret
  exact ⟨rfl, b3⟩
set_option maxRecDepth 100000 in
set_option maxHeartbeats 1600000 in
theorem cT14_0_z (s N D : ByteArray) (sl : Int) (nx ny : Nat) (gx : Bool) (w : World)
    (HW : ∀ W, Calls Tryz.prog 61 #[.string s] W (WriR N D W))
    (HS : ∀ W, Calls Tryz.prog 63 #[.string s] W (IntR sl W)) (_hsl : 0 ≤ sl)
    (HX : ∀ W, Calls Tryz.prog 62 #[.string N] W (DigR nx gx W))
    (HY : ∀ W, Calls Tryz.prog 62 #[.string D] W (DigR ny false W)) (_hx : 1000 < nx) (hy : ny ≤ 1000) (hz : (D.toList == [48]) = true) : Calls Tryz.prog 27 #[.string s] w (IntB 12 w) := by
  have JW := Lib.hid HW
  have JS := Lib.hid HS
  have JX := Lib.hid HX
  have JY := Lib.hid HY
  clear HW HS HX HY
  have hy' : ¬ 1000 < ny := by omega
  go_enter Tryz.func27, Tryz.ntmps27
  go_wp2_with (first
    | (go_at_call 61; refine (JW.out _).mono ?_; rintro e w1 ⟨rfl, k, rfl⟩; have b1 := below_drewN (Below.refl w.heap.size w) k)
    | (go_at_call 62; (with_reducible refine (JX.out _).mono ?_); rintro e w2 ⟨AX, cx, rfl, b⟩; have b2 := bt b1 b; clear b)
    | (go_at_call 62; (with_reducible refine (JY.out _).mono ?_); rintro e w3 ⟨AY, cy, rfl, b⟩; have b3 := bt b2 b; clear b)
    | (go_at_call 63; refine (JS.out _).mono ?_; rintro e w4 ⟨rfl, rfl⟩))
  go_ret
  exact ⟨rfl, b3⟩
set_option maxRecDepth 100000 in
set_option maxHeartbeats 1600000 in
theorem cT14_0_o (s N D : ByteArray) (sl : Int) (nx ny : Nat) (gx : Bool) (w : World)
    (HW : ∀ W, Calls Tryz.prog 61 #[.string s] W (WriR N D W))
    (HS : ∀ W, Calls Tryz.prog 63 #[.string s] W (IntR sl W)) (hsl : 0 ≤ sl)
    (HX : ∀ W, Calls Tryz.prog 62 #[.string N] W (DigR nx gx W))
    (HY : ∀ W, Calls Tryz.prog 62 #[.string D] W (DigR ny false W)) (_hx : 1000 < nx) (hy : ny ≤ 1000) (hz : (D.toList == [48]) = false) (ho : (D.toList == [49]) = true) : Calls Tryz.prog 27 #[.string s] w (IntB 12 w) := by
  have JW := Lib.hid HW
  have JS := Lib.hid HS
  have JX := Lib.hid HX
  have JY := Lib.hid HY
  clear HW HS HX HY
  have hy' : ¬ 1000 < ny := by omega
  go_enter Tryz.func27, Tryz.ntmps27
  go_wp2_with (first
    | (go_at_call 61; refine (JW.out _).mono ?_; rintro e w1 ⟨rfl, k, rfl⟩; have b1 := below_drewN (Below.refl w.heap.size w) k)
    | (go_at_call 62; (with_reducible refine (JX.out _).mono ?_); rintro e w2 ⟨AX, cx, rfl, b⟩; have b2 := bt b1 b; clear b)
    | (go_at_call 62; (with_reducible refine (JY.out _).mono ?_); rintro e w3 ⟨AY, cy, rfl, b⟩; have b3 := bt b2 b; clear b)
    | (go_at_call 63; refine (JS.out _).mono ?_; rintro e w4 ⟨rfl, rfl⟩))
  go_ret
  exact ⟨rfl, b3⟩
set_option maxRecDepth 100000 in
set_option maxHeartbeats 1600000 in
theorem cT14_0_k (s N D : ByteArray) (sl : Int) (nx ny : Nat) (gx : Bool) (w : World)
    (HW : ∀ W, Calls Tryz.prog 61 #[.string s] W (WriR N D W))
    (HS : ∀ W, Calls Tryz.prog 63 #[.string s] W (IntR sl W)) (hsl : 0 ≤ sl)
    (HX : ∀ W, Calls Tryz.prog 62 #[.string N] W (DigR nx gx W))
    (HY : ∀ W, Calls Tryz.prog 62 #[.string D] W (DigR ny false W)) (hx : 1000 < nx) (hy : ny ≤ 1000) (hz : (D.toList == [48]) = false) (ho : (D.toList == [49]) = false) : Calls Tryz.prog 27 #[.string s] w (IntB 14 w) := by
  have JW := Lib.hid HW
  have JS := Lib.hid HS
  have JX := Lib.hid HX
  have JY := Lib.hid HY
  clear HW HS HX HY
  have hy' : ¬ 1000 < ny := by omega
  go_enter Tryz.func27, Tryz.ntmps27
  go_wp2_with (first
    | (go_at_call 61; refine (JW.out _).mono ?_; rintro e w1 ⟨rfl, k, rfl⟩; have b1 := below_drewN (Below.refl w.heap.size w) k)
    | (go_at_call 62; (with_reducible refine (JX.out _).mono ?_); rintro e w2 ⟨AX, cx, rfl, b⟩; have b2 := bt b1 b; clear b)
    | (go_at_call 62; (with_reducible refine (JY.out _).mono ?_); rintro e w3 ⟨AY, cy, rfl, b⟩; have b3 := bt b2 b; clear b)
    | (go_at_call 63; refine (JS.out _).mono ?_; rintro e w4 ⟨rfl, rfl⟩))
  go_ret
  exact ⟨rfl, b3⟩
set_option maxRecDepth 100000 in
set_option maxHeartbeats 1600000 in
theorem cT14_12 (s N D : ByteArray) (sl : Int) (nx : Nat) (gx : Bool) (w : World)
    (HW : ∀ W, Calls Tryz.prog 61 #[.string s] W (WriR N D W))
    (HS : ∀ W, Calls Tryz.prog 63 #[.string s] W (IntR sl W)) (_hsl : 0 ≤ sl)
    (HX : ∀ W, Calls Tryz.prog 62 #[.string N] W (DigR nx gx W))
    (HY : ∀ W, Calls Tryz.prog 62 #[.string D] W (DigN W)) (_hx : 1000 < nx) : Calls Tryz.prog 27 #[.string s] w (IntB 12 w) := by
  have JW := Lib.hid HW
  have JS := Lib.hid HS
  have JX := Lib.hid HX
  have JY := Lib.hid HY
  clear HW HS HX HY
  go_enter Tryz.func27, Tryz.ntmps27
  go_wp2_with (first
    | (go_at_call 61; refine (JW.out _).mono ?_; rintro e w1 ⟨rfl, k, rfl⟩; have b1 := below_drewN (Below.refl w.heap.size w) k)
    | (go_at_call 62; (with_reducible refine (JX.out _).mono ?_); rintro e w2 ⟨AX, cx, rfl, b⟩; have b2 := bt b1 b; clear b)
    | (go_at_call 62; (with_reducible refine (JY.out _).mono ?_); rintro e w3 ⟨rfl, b⟩; have b3 := bt b2 b; clear b)
    | (go_at_call 63; refine (JS.out _).mono ?_; rintro e w4 ⟨rfl, rfl⟩))
  go_ret
  exact ⟨rfl, b3⟩
set_option maxRecDepth 100000 in
set_option maxHeartbeats 1600000 in
theorem cT14_14_n (s N D : ByteArray) (sl : Int) (nx ny : Nat) (gx : Bool) (w : World)
    (HW : ∀ W, Calls Tryz.prog 61 #[.string s] W (WriR N D W))
    (HS : ∀ W, Calls Tryz.prog 63 #[.string s] W (IntR sl W)) (_hsl : 0 ≤ sl)
    (HX : ∀ W, Calls Tryz.prog 62 #[.string N] W (DigR nx gx W))
    (HY : ∀ W, Calls Tryz.prog 62 #[.string D] W (DigR ny true W)) (_hx : 1000 < nx) (_hy : 1000 < ny) : Calls Tryz.prog 27 #[.string s] w (IntB 12 w) := by
  have JW := Lib.hid HW
  have JS := Lib.hid HS
  have JX := Lib.hid HX
  have JY := Lib.hid HY
  clear HW HS HX HY
  go_enter Tryz.func27, Tryz.ntmps27
  go_wp2_with (first
    | (go_at_call 61; refine (JW.out _).mono ?_; rintro e w1 ⟨rfl, k, rfl⟩; have b1 := below_drewN (Below.refl w.heap.size w) k)
    | (go_at_call 62; (with_reducible refine (JX.out _).mono ?_); rintro e w2 ⟨AX, cx, rfl, b⟩; have b2 := bt b1 b; clear b)
    | (go_at_call 62; (with_reducible refine (JY.out _).mono ?_); rintro e w3 ⟨AY, cy, rfl, b⟩; have b3 := bt b2 b; clear b)
    | (go_at_call 63; refine (JS.out _).mono ?_; rintro e w4 ⟨rfl, rfl⟩))
  go_ret
  exact ⟨rfl, b3⟩
set_option maxRecDepth 100000 in
set_option maxHeartbeats 1600000 in
theorem cT14_14_z (s N D : ByteArray) (sl : Int) (nx ny : Nat) (gx : Bool) (w : World)
    (HW : ∀ W, Calls Tryz.prog 61 #[.string s] W (WriR N D W))
    (HS : ∀ W, Calls Tryz.prog 63 #[.string s] W (IntR sl W)) (_hsl : 0 ≤ sl)
    (HX : ∀ W, Calls Tryz.prog 62 #[.string N] W (DigR nx gx W))
    (HY : ∀ W, Calls Tryz.prog 62 #[.string D] W (DigR ny false W)) (_hx : 1000 < nx) (_hy : 1000 < ny) (hz : (D.toList == [48]) = true) : Calls Tryz.prog 27 #[.string s] w (IntB 12 w) := by
  have JW := Lib.hid HW
  have JS := Lib.hid HS
  have JX := Lib.hid HX
  have JY := Lib.hid HY
  clear HW HS HX HY
  go_enter Tryz.func27, Tryz.ntmps27
  go_wp2_with (first
    | (go_at_call 61; refine (JW.out _).mono ?_; rintro e w1 ⟨rfl, k, rfl⟩; have b1 := below_drewN (Below.refl w.heap.size w) k)
    | (go_at_call 62; (with_reducible refine (JX.out _).mono ?_); rintro e w2 ⟨AX, cx, rfl, b⟩; have b2 := bt b1 b; clear b)
    | (go_at_call 62; (with_reducible refine (JY.out _).mono ?_); rintro e w3 ⟨AY, cy, rfl, b⟩; have b3 := bt b2 b; clear b)
    | (go_at_call 63; refine (JS.out _).mono ?_; rintro e w4 ⟨rfl, rfl⟩))
  go_ret
  exact ⟨rfl, b3⟩
set_option maxRecDepth 100000 in
set_option maxHeartbeats 1600000 in
theorem cT14_14_o (s N D : ByteArray) (sl : Int) (nx ny : Nat) (gx : Bool) (w : World)
    (HW : ∀ W, Calls Tryz.prog 61 #[.string s] W (WriR N D W))
    (HS : ∀ W, Calls Tryz.prog 63 #[.string s] W (IntR sl W)) (hsl : 0 ≤ sl)
    (HX : ∀ W, Calls Tryz.prog 62 #[.string N] W (DigR nx gx W))
    (HY : ∀ W, Calls Tryz.prog 62 #[.string D] W (DigR ny false W)) (_hx : 1000 < nx) (_hy : 1000 < ny) (hz : (D.toList == [48]) = false) (ho : (D.toList == [49]) = true) : Calls Tryz.prog 27 #[.string s] w (IntB 12 w) := by
  have JW := Lib.hid HW
  have JS := Lib.hid HS
  have JX := Lib.hid HX
  have JY := Lib.hid HY
  clear HW HS HX HY
  go_enter Tryz.func27, Tryz.ntmps27
  go_wp2_with (first
    | (go_at_call 61; refine (JW.out _).mono ?_; rintro e w1 ⟨rfl, k, rfl⟩; have b1 := below_drewN (Below.refl w.heap.size w) k)
    | (go_at_call 62; (with_reducible refine (JX.out _).mono ?_); rintro e w2 ⟨AX, cx, rfl, b⟩; have b2 := bt b1 b; clear b)
    | (go_at_call 62; (with_reducible refine (JY.out _).mono ?_); rintro e w3 ⟨AY, cy, rfl, b⟩; have b3 := bt b2 b; clear b)
    | (go_at_call 63; refine (JS.out _).mono ?_; rintro e w4 ⟨rfl, rfl⟩))
  go_ret
  exact ⟨rfl, b3⟩
set_option maxRecDepth 100000 in
set_option maxHeartbeats 1600000 in
theorem cT14_14_k (s N D : ByteArray) (sl : Int) (nx ny : Nat) (gx : Bool) (w : World)
    (HW : ∀ W, Calls Tryz.prog 61 #[.string s] W (WriR N D W))
    (HS : ∀ W, Calls Tryz.prog 63 #[.string s] W (IntR sl W)) (hsl : 0 ≤ sl)
    (HX : ∀ W, Calls Tryz.prog 62 #[.string N] W (DigR nx gx W))
    (HY : ∀ W, Calls Tryz.prog 62 #[.string D] W (DigR ny false W)) (hx : 1000 < nx) (_hy : 1000 < ny) (hz : (D.toList == [48]) = false) (ho : (D.toList == [49]) = false) : Calls Tryz.prog 27 #[.string s] w (IntB 14 w) := by
  have JW := Lib.hid HW
  have JS := Lib.hid HS
  have JX := Lib.hid HX
  have JY := Lib.hid HY
  clear HW HS HX HY
  go_enter Tryz.func27, Tryz.ntmps27
  go_wp2_with (first
    | (go_at_call 61; refine (JW.out _).mono ?_; rintro e w1 ⟨rfl, k, rfl⟩; have b1 := below_drewN (Below.refl w.heap.size w) k)
    | (go_at_call 62; (with_reducible refine (JX.out _).mono ?_); rintro e w2 ⟨AX, cx, rfl, b⟩; have b2 := bt b1 b; clear b)
    | (go_at_call 62; (with_reducible refine (JY.out _).mono ?_); rintro e w3 ⟨AY, cy, rfl, b⟩; have b3 := bt b2 b; clear b)
    | (go_at_call 63; refine (JS.out _).mono ?_; rintro e w4 ⟨rfl, rfl⟩))
  go_ret
  exact ⟨rfl, b3⟩
set_option maxRecDepth 100000 in
set_option maxHeartbeats 1600000 in
theorem cF0 (s N D G : ByteArray) (sl : Int) (nx ny : Nat) (gx : Bool) (w : World)
    (HW : ∀ W, Calls Tryz.prog 61 #[.string s] W (WriR N D W))
    (HS : ∀ W, Calls Tryz.prog 63 #[.string s] W (IntR sl W)) (hsl : sl ≤ -1)
    (HX : ∀ W, Calls Tryz.prog 62 #[.string N] W (DigR nx gx W))
    (HY : ∀ W, Calls Tryz.prog 62 #[.string D] W (DigR ny false W)) (hx : nx ≤ 1000) (hy : ny ≤ 1000) (hz : (D.toList == [48]) = false) (_ho : (D.toList == [49]) = true)
    (HG : ∀ W, Calls Tryz.prog 64 #[.string N, .string D] W (GcdR G W)) (_hG : (G.toList == [49]) = true) : Calls Tryz.prog 27 #[.string s] w (IntB 0 w) := by
  have JW := Lib.hid HW
  have JS := Lib.hid HS
  have JX := Lib.hid HX
  have JY := Lib.hid HY
  have JG := Lib.hid HG
  clear HW HS HX HY HG
  have hx' : ¬ 1000 < nx := by omega
  have hy' : ¬ 1000 < ny := by omega
  go_enter Tryz.func27, Tryz.ntmps27
  go_wp2_with (first
    | (go_at_call 61; refine (JW.out _).mono ?_; rintro e w1 ⟨rfl, k, rfl⟩; have b1 := below_drewN (Below.refl w.heap.size w) k)
    | (go_at_call 62; (with_reducible refine (JX.out _).mono ?_); rintro e w2 ⟨AX, cx, rfl, b⟩; have b2 := bt b1 b; clear b)
    | (go_at_call 62; (with_reducible refine (JY.out _).mono ?_); rintro e w3 ⟨AY, cy, rfl, b⟩; have b3 := bt b2 b; clear b)
    | (go_at_call 63; refine (JS.out _).mono ?_; rintro e w4 ⟨rfl, rfl⟩)
    | (go_at_call 64; refine (JG.out _).mono ?_; rintro e w5 ⟨rfl, b⟩; have b4 := bt b3 b; clear b))
  go_ret
  exact ⟨rfl, b4⟩
set_option maxRecDepth 100000 in
set_option maxHeartbeats 1600000 in
theorem cF12 (s N D : ByteArray) (sl : Int) (ny : Nat) (w : World)
    (HW : ∀ W, Calls Tryz.prog 61 #[.string s] W (WriR N D W))
    (HS : ∀ W, Calls Tryz.prog 63 #[.string s] W (IntR sl W)) (_hsl : sl ≤ -1)
    (HX : ∀ W, Calls Tryz.prog 62 #[.string N] W (DigN W))
    (HY : ∀ W, Calls Tryz.prog 62 #[.string D] W (DigR ny false W)) (hy : ny ≤ 1000) (_hz : (D.toList == [48]) = false) (_ho : (D.toList == [49]) = true) : Calls Tryz.prog 27 #[.string s] w (IntB 12 w) := by
  have JW := Lib.hid HW
  have JS := Lib.hid HS
  have JX := Lib.hid HX
  have JY := Lib.hid HY
  clear HW HS HX HY
  have hy' : ¬ 1000 < ny := by omega
  go_enter Tryz.func27, Tryz.ntmps27
  go_wp2_with (first
    | (go_at_call 61; refine (JW.out _).mono ?_; rintro e w1 ⟨rfl, k, rfl⟩; have b1 := below_drewN (Below.refl w.heap.size w) k)
    | (go_at_call 62; (with_reducible refine (JX.out _).mono ?_); rintro e w2 ⟨rfl, b⟩; have b2 := bt b1 b; clear b)
    | (go_at_call 62; (with_reducible refine (JY.out _).mono ?_); rintro e w3 ⟨AY, cy, rfl, b⟩; have b3 := bt b2 b; clear b)
    | (go_at_call 63; refine (JS.out _).mono ?_; rintro e w4 ⟨rfl, rfl⟩))
  go_ret
  exact ⟨rfl, b3⟩
set_option maxRecDepth 100000 in
set_option maxHeartbeats 1600000 in
theorem cF14 (s N D : ByteArray) (sl : Int) (nx ny : Nat) (gx : Bool) (w : World)
    (HW : ∀ W, Calls Tryz.prog 61 #[.string s] W (WriR N D W))
    (HS : ∀ W, Calls Tryz.prog 63 #[.string s] W (IntR sl W)) (hsl : sl ≤ -1)
    (HX : ∀ W, Calls Tryz.prog 62 #[.string N] W (DigR nx gx W))
    (HY : ∀ W, Calls Tryz.prog 62 #[.string D] W (DigR ny false W)) (hx : 1000 < nx) (hy : ny ≤ 1000) (hz : (D.toList == [48]) = false) (_ho : (D.toList == [49]) = true) : Calls Tryz.prog 27 #[.string s] w (IntB 14 w) := by
  have JW := Lib.hid HW
  have JS := Lib.hid HS
  have JX := Lib.hid HX
  have JY := Lib.hid HY
  clear HW HS HX HY
  have hy' : ¬ 1000 < ny := by omega
  go_enter Tryz.func27, Tryz.ntmps27
  go_wp2_with (first
    | (go_at_call 61; refine (JW.out _).mono ?_; rintro e w1 ⟨rfl, k, rfl⟩; have b1 := below_drewN (Below.refl w.heap.size w) k)
    | (go_at_call 62; (with_reducible refine (JX.out _).mono ?_); rintro e w2 ⟨AX, cx, rfl, b⟩; have b2 := bt b1 b; clear b)
    | (go_at_call 62; (with_reducible refine (JY.out _).mono ?_); rintro e w3 ⟨AY, cy, rfl, b⟩; have b3 := bt b2 b; clear b)
    | (go_at_call 63; refine (JS.out _).mono ?_; rintro e w4 ⟨rfl, rfl⟩))
  go_ret
  exact ⟨rfl, b3⟩
end Go.Proofs.YtgjhgkglfflmjaaGreatDoor

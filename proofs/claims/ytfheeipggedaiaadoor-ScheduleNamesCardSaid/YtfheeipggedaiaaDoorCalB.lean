/- Layer 4: the program's walks: days, whether a day is a business day, valid calendars. -/
import Derived.Test.YtfheeipggedaiaaDoorCalA
import Derived.Test.YtfheeipggedaiaaDoorDatC
import Derived.Test.YtfheeipggedaiaaDoorShelf
namespace Go.Proofs.YtfheeipggedaiaaDoor
open Go Go.RowKit

set_option maxHeartbeats 400000 in
theorem isDayC_any (n : Int) (b : Bool) (h : dayB n = b) (w : World) :
    Calls Tryd.prog 52 #[.int .i64 n] w fun e w' => e = .returned (.bool b) ∧ w = w' := by
  by_cases hd : 0 ≤ n ∧ n ≤ 99999
  · have hb : b = true := by rw [← h]; exact (dayB_iff n).2 hd
    have HD := Lib.hid (weekday_in n hd.1 hd.2 w)
    clear h hd
    subst hb
    go_enter Tryd.func52, Tryd.ntmps52
    go_wp2_with (go_at_call 49; ((with_reducible refine HD.out.mono ?_); rintro e w' ⟨rfl, rfl⟩))
    go_ret
    exact ⟨rfl, rfl⟩
  · have hb : b = false := by rw [← h]; exact Bool.eq_false_iff.2 (fun e => hd ((dayB_iff n).1 e))
    have HD := Lib.hid (weekday_out n (by omega) w)
    clear h hd
    subst hb
    go_enter Tryd.func52, Tryd.ntmps52
    go_wp2_with (go_at_call 49; ((with_reducible refine HD.out.mono ?_); rintro e w' ⟨rfl, rfl⟩))
    go_ret
    exact ⟨rfl, rfl⟩

theorem search_any (A : Option Addr) (c : Nat) (hs : List Int) (d : Int) (w : World) (h : HsA w A hs) (hl : hs.length ≤ 1000) (ho : hs.Pairwise (· ≤ ·)) :
    Calls Tryd.prog 28 #[.slice A hs.length c, .int .i64 d] w fun e w' => ∃ i, e = .returned (.tuple #[.int .i64 i, .bool (hs.contains d)]) ∧ Below w.heap.size w w' := by
  rcases h with rfl | ⟨b, o, rfl, hb, hc⟩
  · refine (Tryd.slices_BinarySearch_int_empty A c d w).mono ?_
    rintro e w' ⟨rfl, rfl⟩
    exact ⟨0, rfl, Below.refl _ _⟩
  · have h := Tryd.slices_BinarySearch_int b o hs.length c hs d w (Nat.le_refl _) (by omega) hc (by rw [List.take_length]; exact ho)
    rw [List.take_length] at h
    refine h.mono ?_
    rintro e w' ⟨rfl, q, rfl⟩
    exact ⟨_, rfl, rfl, rfl, rfl, Nat.le_refl _, fun _ _ => rfl⟩

theorem bits_and1C (x : Int) (h0 : 0 ≤ x) (h1 : x ≤ 255) : (bits BinOp.and IntKind.u8 x 1 == 1) = decide (x % 2 = 1) := by
  have h : ∀ k : Fin 256, (bits BinOp.and IntKind.u8 ((k.val : Nat) : Int) 1 == 1) = decide (((k.val : Nat) : Int) % 2 = 1) := by decide +kernel
  obtain ⟨k, rfl⟩ : ∃ k : Nat, x = k := ⟨x.toNat, by omega⟩
  exact h ⟨k, by omega⟩
theorem shr_bd (we : Int) (k : Nat) (h0 : 0 ≤ we) (h1 : we ≤ 255) : 0 ≤ we / 2 ^ k ∧ we / 2 ^ k ≤ 255 := by
  have hp : (0 : Int) < 2 ^ k := Int.pow_pos (by decide)
  refine ⟨Int.ediv_nonneg h0 (by omega), ?_⟩
  exact Int.le_trans (Int.ediv_le_self _ h0) h1
theorem off_bits (we d k : Int) (h0 : 0 ≤ we) (h1 : we ≤ 255) (hk : d % 7 = k) : (bits BinOp.and IntKind.u8 (we / 2 ^ k.toNat) 1 == 1) = offB we d := by
  have := shr_bd we k.toNat h0 h1
  rw [bits_and1C _ this.1 this.2]; unfold offB; rw [hk]

set_option maxRecDepth 100000 in
set_option maxHeartbeats 1600000 in
theorem biz_any (B : Nat) (we : Int) (A : Option Addr) (c : Nat) (hs : List Int) (d : Int) (w : World) (h : CalAt w B we A c hs) (w0 : 0 ≤ we) (w1 : we ≤ 255) (hl : hs.length ≤ 1000) (ho : hs.Pairwise (· ≤ ·)) (d0 : 0 ≤ d) (d1 : d ≤ 99999) (b : Bool) (hb : bizB we hs d = b) :
    Calls Tryd.prog 58 #[.int .i64 d, .pointer (some ⟨B, 0, none⟩)] w fun e w' => e = .returned (.bool b) ∧ Below w.heap.size w w' := by
  have HW := Lib.hid (weekday_in d d0 d1 w)
  have HS := Lib.hid (search_any A c hs d w h.hs hl ho)
  have c0 := h.c0
  have c1 := h.c1
  have hk : d % 7 = 0 ∨ d % 7 = 1 ∨ d % 7 = 2 ∨ d % 7 = 3 ∨ d % 7 = 4 ∨ d % 7 = 5 ∨ d % 7 = 6 := by omega
  clear h ho hl
  obtain ⟨k, hk⟩ : ∃ k, d % 7 = k := ⟨_, rfl⟩
  rw [hk] at HW
  have HB := Lib.hid hb
  go_enter Tryd.func58, Tryd.ntmps58
  go_wp2_with (first
    | (go_at_call 49; ((with_reducible refine HW.out.mono ?_); rintro e w' ⟨rfl, rfl⟩))
    | (go_at_call 28; ((with_reducible refine HS.out.mono ?_); rintro e w' ⟨i, rfl, hbel⟩)))
  · next hx =>
    go_ret
    refine ⟨ret_boolD ?_, Below.refl _ _⟩
    rw [off_bits we d k w0 w1 hk] at hx
    rw [← HB.out]; unfold bizB; rw [hx]; rfl
  · next hx =>
    go_ret
    refine ⟨ret_boolD ?_, hbel⟩
    rw [off_bits we d k w0 w1 hk] at hx
    rw [← HB.out]; unfold bizB; rw [hx, List.contains_eq_mem]; rfl

set_option maxHeartbeats 400000 in
theorem businessOf_any (we : Int) (A : Option Addr) (n c : Nat) (w : World) :
    Calls Tryd.prog 40 #[.agg #[.int .u8 we, .slice A n c]] w fun e w' => e = .returned (.func (.func 58) #[] #[.pointer (some ⟨w.heap.size, 0, none⟩)]) ∧ w' = w.alloc (.cells #[.int .u8 we, .slice A n c] 25) := by
  go_enter Tryd.func40, Tryd.ntmps40
  go_wp2
  go_ret
  exact ⟨rfl, rfl⟩

/-- What a call of the closure answers, wherever the calendar lies as it lay. -/
def BizAt (w : World) (B : Nat) (p : Int → Bool) : Prop :=
  B < w.heap.size ∧ ∀ w', Below w.heap.size w w' → ∀ d, 0 ≤ d → d ≤ 99999 → Calls Tryd.prog 58 #[.int .i64 d, .pointer (some ⟨B, 0, none⟩)] w' fun e w2 => e = .returned (.bool (p d)) ∧ Below w'.heap.size w' w2
theorem BizAt.below {w w' : World} {B : Nat} {p : Int → Bool} (h : BizAt w B p) (hb : Below w.heap.size w w') : BizAt w' B p :=
  ⟨Nat.lt_of_lt_of_le h.1 hb.size, fun w2 h2 d d0 d1 => h.2 w2 (hb.trans (h2.mono hb.size)) d d0 d1⟩
theorem bizAt_of {w : World} {B : Nat} {we : Int} {A : Option Addr} {c : Nat} {hs : List Int} (h : CalAt w B we A c hs) (w0 : 0 ≤ we) (w1 : we ≤ 255) (hv : valB we hs = true) : BizAt w B (bizB we hs) := by
  refine ⟨h.lt, fun w' hb d d0 d1 => ?_⟩
  simp only [valB, Bool.and_eq_true, decide_eq_true_eq] at hv
  exact biz_any B we A c hs d w' (h.below hb) w0 w1 hv.1.2 (ordB_le hv.2) d0 d1 _ rfl
end Go.Proofs.YtfheeipggedaiaaDoor

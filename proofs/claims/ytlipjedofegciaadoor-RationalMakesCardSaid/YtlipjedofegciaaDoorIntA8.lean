/- Joined: IntL2g, IntF, IntF2, IntF3, IntL4g, IntF4, IntL5g, IntL6g, IntL7g, IntN. -/
import Derived.Test.YtlipjedofegciaaDoorIntA5
import Derived.Test.YtlipjedofegciaaDoorIntA9
import Derived.Test.YtlipjedofegciaaDoorIntA7
/- Layer 1: Great of two strings. -/
namespace Go.Proofs.YtlipjedofegciaaDoor
open Go Go.RowKit

theorem great_two (s t : ByteArray) (r : Bool) (hr : (decide (1100 < s.size) || decide (1100 < t.size)) = r) (w : World) (ty : TypeId) :
    Calls Tryd.prog 23 #[.slice (some ⟨w.heap.size, 0, none⟩) 2 2] (w.alloc (.cells #[.string s, .string t] ty)) fun e w' => e = .returned (.bool r) ∧ w.alloc (.cells #[.string s, .string t] ty) = w' := by
  have h := great_any (some ⟨w.heap.size, 0, none⟩) 2 [s, t] (w.alloc (.cells #[.string s, .string t] ty)) (SlA.of_cells (heap_alloc_new w _) rfl) (by unfold maxLen; simp)
  have e : grt [s, t] = r := by rw [← hr]; simp [grt]
  rw [e] at h
  exact h
end Go.Proofs.YtlipjedofegciaaDoor
/- The walks of layer 1: what the laws share: op, fits. -/
namespace Go.Proofs.YtlipjedofegciaaDoor
open Go Go.RowKit

/-- What an operation's text is: nothing where there is an error. -/
theorem opS_text {f : Int → Int → Int} {l m : List UInt8} (h : ¬ (opS f l m).2 = 0) : (opS f l m).1 = [] := by
  unfold opS limS at h ⊢
  split
  · next e =>
    rw [if_pos e] at h
    split
    · next g => rw [if_pos g] at h; exact absurd rfl h
    · rfl
  · rfl

set_option maxRecDepth 100000 in
set_option maxHeartbeats 800000 in
theorem op_of_add (s t : ByteArray) (r : List UInt8 × Int) (hr : ¬ r.2 = 0 → r.1 = []) (w : World)
    (H : Calls Tryd.prog 14 #[.string s, .string t] w fun e w' => e = .returned (.tuple #[.string ⟨r.1.toArray⟩, .int .i64 r.2]) ∧ Below w.heap.size w w') :
    Calls Tryd.prog 34 #[.func (.func 14) #[] #[], .string s, .string t] w fun e w' => e = .returned (.string ⟨r.1.toArray⟩) ∧ Below w.heap.size w w' := by
  have H1 := Lib.hid H
  clear H
  obtain ⟨r1, r2⟩ := r
  by_cases h0 : r2 = 0
  · subst h0
    clear hr
    go_enter Tryd.func34, Tryd.ntmps34
    go_wp2_with fail
    refine H1.out.mono ?_
    rintro e w1 ⟨rfl, hb⟩
    go_wp2
    go_ret
    exact ⟨rfl, hb⟩
  · have h1 : r1 = [] := hr h0
    subst h1
    have h2 : (r2 == 0) = false := by rw [beq_eq_false_iff_ne]; exact h0
    clear hr h0
    go_enter Tryd.func34, Tryd.ntmps34
    go_wp2_with fail
    refine H1.out.mono ?_
    rintro e w1 ⟨rfl, hb⟩
    go_wp2
    go_ret
    exact ⟨rfl, hb⟩

set_option maxRecDepth 100000 in
set_option maxHeartbeats 800000 in
theorem op_of_sub (s t : ByteArray) (r : List UInt8 × Int) (hr : ¬ r.2 = 0 → r.1 = []) (w : World)
    (H : Calls Tryd.prog 15 #[.string s, .string t] w fun e w' => e = .returned (.tuple #[.string ⟨r.1.toArray⟩, .int .i64 r.2]) ∧ Below w.heap.size w w') :
    Calls Tryd.prog 34 #[.func (.func 15) #[] #[], .string s, .string t] w fun e w' => e = .returned (.string ⟨r.1.toArray⟩) ∧ Below w.heap.size w w' := by
  have H1 := Lib.hid H
  clear H
  obtain ⟨r1, r2⟩ := r
  by_cases h0 : r2 = 0
  · subst h0
    clear hr
    go_enter Tryd.func34, Tryd.ntmps34
    go_wp2_with fail
    refine H1.out.mono ?_
    rintro e w1 ⟨rfl, hb⟩
    go_wp2
    go_ret
    exact ⟨rfl, hb⟩
  · have h1 : r1 = [] := hr h0
    subst h1
    have h2 : (r2 == 0) = false := by rw [beq_eq_false_iff_ne]; exact h0
    clear hr h0
    go_enter Tryd.func34, Tryd.ntmps34
    go_wp2_with fail
    refine H1.out.mono ?_
    rintro e w1 ⟨rfl, hb⟩
    go_wp2
    go_ret
    exact ⟨rfl, hb⟩

set_option maxRecDepth 100000 in
set_option maxHeartbeats 800000 in
theorem op_of_mul (s t : ByteArray) (r : List UInt8 × Int) (hr : ¬ r.2 = 0 → r.1 = []) (w : World)
    (H : Calls Tryd.prog 16 #[.string s, .string t] w fun e w' => e = .returned (.tuple #[.string ⟨r.1.toArray⟩, .int .i64 r.2]) ∧ Below w.heap.size w w') :
    Calls Tryd.prog 34 #[.func (.func 16) #[] #[], .string s, .string t] w fun e w' => e = .returned (.string ⟨r.1.toArray⟩) ∧ Below w.heap.size w w' := by
  have H1 := Lib.hid H
  clear H
  obtain ⟨r1, r2⟩ := r
  by_cases h0 : r2 = 0
  · subst h0
    clear hr
    go_enter Tryd.func34, Tryd.ntmps34
    go_wp2_with fail
    refine H1.out.mono ?_
    rintro e w1 ⟨rfl, hb⟩
    go_wp2
    go_ret
    exact ⟨rfl, hb⟩
  · have h1 : r1 = [] := hr h0
    subst h1
    have h2 : (r2 == 0) = false := by rw [beq_eq_false_iff_ne]; exact h0
    clear hr h0
    go_enter Tryd.func34, Tryd.ntmps34
    go_wp2_with fail
    refine H1.out.mono ?_
    rintro e w1 ⟨rfl, hb⟩
    go_wp2
    go_ret
    exact ⟨rfl, hb⟩

section
variable (s t : ByteArray) (hs : s.size ≤ maxLen) (ht : t.size ≤ maxLen) (w : World) (hv : VarT w)
include hs ht hv
theorem op_add : Calls Tryd.prog 34 #[.func (.func 14) #[] #[], .string s, .string t] w fun e w' => e = .returned (.string ⟨(opS (· + ·) s.data.toList t.data.toList).1.toArray⟩) ∧ Below w.heap.size w w' :=
  op_of_add s t _ opS_text w (add_any s t hs ht w hv)
theorem op_sub : Calls Tryd.prog 34 #[.func (.func 15) #[] #[], .string s, .string t] w fun e w' => e = .returned (.string ⟨(opS (· - ·) s.data.toList t.data.toList).1.toArray⟩) ∧ Below w.heap.size w w' :=
  op_of_sub s t _ opS_text w (sub_any s t hs ht w hv)
theorem op_mul : Calls Tryd.prog 34 #[.func (.func 16) #[] #[], .string s, .string t] w fun e w' => e = .returned (.string ⟨(opS (· * ·) s.data.toList t.data.toList).1.toArray⟩) ∧ Below w.heap.size w w' :=
  op_of_mul s t _ opS_text w (mul_any s t hs ht w hv)
end

/-- All strings are canonical integers of at most n bytes. -/
def fitB (n : Nat) (ss : List ByteArray) : Bool := ss.all fun s => decide (s.size ≤ n) && decide (chk s.data.toList = 0)
theorem fitB_next {n k : Nat} {ss : List ByteArray} (h : k < ss.length) (ha : fitB n (ss.take k) = true) (h1 : ss[k].size ≤ n) (h2 : chk ss[k].data.toList = 0) : fitB n (ss.take (k + 1)) = true := by
  rw [take_snoc ss k h]
  unfold fitB at ha ⊢
  rw [List.all_append, ha]
  simp [h1, h2]
theorem fitB_not {n k : Nat} {ss : List ByteArray} (h : k < ss.length) (h1 : ¬ (ss[k].size ≤ n ∧ chk ss[k].data.toList = 0)) : fitB n ss = false := by
  unfold fitB
  rw [List.all_eq_false]
  refine ⟨ss[k], List.getElem_mem h, ?_⟩
  simpa using h1

set_option maxRecDepth 100000 in
set_option maxHeartbeats 800000 in
theorem fits_any (n : Nat) (hn : n ≤ 1000000) (A : Option Addr) (c : Nat) (ss : List ByteArray) (w : World) (hA : SlA Value.string w A ss) (hs : ss.length ≤ 1000000) :
    Calls Tryd.prog 33 #[.int .i64 n, .slice A ss.length c] w fun e w' => e = .returned (.bool (fitB n ss)) ∧ Below w.heap.size w w' := by
  go_enter Tryd.func33, Tryd.ntmps33
  go_wp2
  go_loopw [5] (fun i wr => ∃ k : Nat, k ≤ ss.length ∧ i = .int .i64 k ∧ Hid (fitB n (ss.take k) = true) ∧ Below w.heap.size w wr) (fun i _ => ss.length - (intOf i).toNat)
  case atStart => exact ⟨0, Nat.zero_le _, rfl, rfl, Below.refl _ _⟩
  case round =>
    obtain ⟨k, hk, rfl, hfit, hbel⟩ := hrel
    by_cases hlt : k < ss.length
    · obtain ⟨b, o, rfl, _, hc⟩ := (hA.below hbel).get hlt
      have HN := Lib.hid (fun h1 h2 => fitB_next hlt hfit.out h1 h2)
      have HX := Lib.hid (fun h1 => fitB_not (n := n) hlt h1)
      generalize ss[k] = x at *
      by_cases hx : x.size ≤ n
      · have HC := Lib.hid (fun W => refCheck_any x W (by omega))
        by_cases h0 : chk x.data.toList = 0
        · have HN2 := Lib.hid (HN.out hx h0)
          rw [h0] at HC
          have hx' : ¬ (n : Int) < (x.size : Int) := by omega
          clear hA HX HN h0 hfit hx
          go_wp2_with (go_at_call 28; refine (HC.out _).mono ?_; rintro e w1 ⟨rfl, hb1⟩)
          go_roundw
          case rel => exact ⟨k + 1, by omega, by go_num, HN2, hbel.trans (hb1.mono hbel.size)⟩
          case measure => simp [intOf]; omega
        · have HX2 := Lib.hid (HX.out (fun h => h0 h.2))
          obtain ⟨z, hz⟩ : ∃ z, chk x.data.toList = z := ⟨_, rfl⟩
          rw [hz] at HC h0
          have h1 : (z == 0) = false := by rw [beq_eq_false_iff_ne]; exact h0
          have hx' : ¬ (n : Int) < (x.size : Int) := by omega
          clear hA HX HN h0 hfit hz hx
          go_wp2_with (go_at_call 28; refine (HC.out _).mono ?_; rintro e w1 ⟨rfl, hb1⟩)
          go_ret
          exact ⟨ret_bool HX2.out.symm, hbel.trans (hb1.mono hbel.size)⟩
      · have HX2 := Lib.hid (HX.out (fun h => hx h.1))
        have hx' : (n : Int) < (x.size : Int) := by omega
        clear hA HX HN hfit hx
        go_wp2
        go_ret
        exact ⟨ret_bool HX2.out.symm, hbel⟩
    · obtain rfl : k = ss.length := by omega
      have HF : Hid (fitB n ss = true) := by have := hfit.out; rwa [List.take_of_length_le (Nat.le_refl _)] at this
      clear hfit
      go_wp2
      go_ret
      exact ⟨ret_bool HF.out.symm, hbel⟩
end Go.Proofs.YtlipjedofegciaaDoor
/- The walks of layer 1: the chapter's examples. -/
namespace Go.Proofs.YtlipjedofegciaaDoor
open Go Go.RowKit

theorem al_a : opS (· + ·) [57, 57, 57, 57, 57, 57, 57, 57, 57, 57, 57, 57, 57, 57, 57, 57, 57, 57, 57, 57] [49] = ([49, 48, 48, 48, 48, 48, 48, 48, 48, 48, 48, 48, 48, 48, 48, 48, 48, 48, 48, 48, 48], 0) := by decide +kernel
theorem al_b : opS (· * ·) [45, 49, 50] [49, 50] = ([45, 49, 52, 52], 0) := by decide +kernel
theorem al_c : dmS [45, 55] [50] = ([45, 52], [49], 0) := by decide +kernel
theorem al_d : dmS [45, 55] [45, 50] = ([52], [49], 0) := by decide +kernel
theorem al_e : gcS [49, 50] [45, 49, 56] = ([54], 0) := by decide +kernel
theorem ac_a (w : World) (hv : VarT w) : Calls Tryd.prog 14 #[.string ⟨#[57, 57, 57, 57, 57, 57, 57, 57, 57, 57, 57, 57, 57, 57, 57, 57, 57, 57, 57, 57]⟩, .string ⟨#[49]⟩] w fun e w' => e = .returned (.tuple #[.string ⟨[49, 48, 48, 48, 48, 48, 48, 48, 48, 48, 48, 48, 48, 48, 48, 48, 48, 48, 48, 48, 48].toArray⟩, .int .i64 0]) ∧ Below w.heap.size w w' := by
  have h := add_any ⟨#[57, 57, 57, 57, 57, 57, 57, 57, 57, 57, 57, 57, 57, 57, 57, 57, 57, 57, 57, 57]⟩ ⟨#[49]⟩ (by decide) (by decide) w hv
  rw [show opS (· + ·) (⟨#[57, 57, 57, 57, 57, 57, 57, 57, 57, 57, 57, 57, 57, 57, 57, 57, 57, 57, 57, 57]⟩ : ByteArray).data.toList (⟨#[49]⟩ : ByteArray).data.toList = ([49, 48, 48, 48, 48, 48, 48, 48, 48, 48, 48, 48, 48, 48, 48, 48, 48, 48, 48, 48, 48], 0) from al_a] at h
  exact h
theorem ac_b (w : World) (hv : VarT w) : Calls Tryd.prog 16 #[.string ⟨#[45, 49, 50]⟩, .string ⟨#[49, 50]⟩] w fun e w' => e = .returned (.tuple #[.string ⟨[45, 49, 52, 52].toArray⟩, .int .i64 0]) ∧ Below w.heap.size w w' := by
  have h := mul_any ⟨#[45, 49, 50]⟩ ⟨#[49, 50]⟩ (by decide) (by decide) w hv
  rw [show opS (· * ·) (⟨#[45, 49, 50]⟩ : ByteArray).data.toList (⟨#[49, 50]⟩ : ByteArray).data.toList = ([45, 49, 52, 52], 0) from al_b] at h
  exact h
theorem ac_c (w : World) (hv : VarT w) : Calls Tryd.prog 17 #[.string ⟨#[45, 55]⟩, .string ⟨#[50]⟩] w fun e w' => e = .returned (.tuple #[.string ⟨[45, 52].toArray⟩, .string ⟨[49].toArray⟩, .int .i64 0]) ∧ Below w.heap.size w w' := by
  have h := divmod_any ⟨#[45, 55]⟩ ⟨#[50]⟩ (by decide) (by decide) w hv
  rw [show dmS (⟨#[45, 55]⟩ : ByteArray).data.toList (⟨#[50]⟩ : ByteArray).data.toList = ([45, 52], [49], 0) from al_c] at h
  exact h
theorem ac_d (w : World) (hv : VarT w) : Calls Tryd.prog 17 #[.string ⟨#[45, 55]⟩, .string ⟨#[45, 50]⟩] w fun e w' => e = .returned (.tuple #[.string ⟨[52].toArray⟩, .string ⟨[49].toArray⟩, .int .i64 0]) ∧ Below w.heap.size w w' := by
  have h := divmod_any ⟨#[45, 55]⟩ ⟨#[45, 50]⟩ (by decide) (by decide) w hv
  rw [show dmS (⟨#[45, 55]⟩ : ByteArray).data.toList (⟨#[45, 50]⟩ : ByteArray).data.toList = ([52], [49], 0) from al_d] at h
  exact h
theorem ac_e (w : World) (hv : VarT w) : Calls Tryd.prog 18 #[.string ⟨#[49, 50]⟩, .string ⟨#[45, 49, 56]⟩] w fun e w' => e = .returned (.tuple #[.string ⟨[54].toArray⟩, .int .i64 0]) ∧ Below w.heap.size w w' := by
  have h := gcd_any ⟨#[49, 50]⟩ ⟨#[45, 49, 56]⟩ (by decide) (by decide) w hv
  rw [show gcS (⟨#[49, 50]⟩ : ByteArray).data.toList (⟨#[45, 49, 56]⟩ : ByteArray).data.toList = ([54], 0) from al_e] at h
  exact h

set_option maxRecDepth 100000 in
set_option maxHeartbeats 1600000 in
theorem alive_any (w : World) (hv : VarT w) : Calls Tryd.prog 21 #[] w fun e w' => e = .returned (.bool true) ∧ Below w.heap.size w w' := by
  have HA := Lib.hid ac_a
  have HB := Lib.hid ac_b
  have HC := Lib.hid ac_c
  have HD := Lib.hid ac_d
  have HE := Lib.hid ac_e
  have HV := Lib.hid hv
  clear hv
  go_enter Tryd.func21, Tryd.ntmps21
  go_wp2_with (first
    | (go_at_call 14; (with_reducible refine (HA.out _ HV.out).mono ?_); rintro e w1 ⟨rfl, b1⟩)
    | (go_at_call 16; (with_reducible refine (HB.out _ (HV.out.below b1)).mono ?_); rintro e w2 ⟨rfl, b⟩; have b2 := bt b1 b; clear b)
    | (go_at_call 17; (with_reducible refine (HC.out _ (HV.out.below b2)).mono ?_); rintro e w3 ⟨rfl, b⟩; have b3 := bt b2 b; clear b)
    | (go_at_call 17; (with_reducible refine (HD.out _ (HV.out.below b3)).mono ?_); rintro e w4 ⟨rfl, b⟩; have b4 := bt b3 b; clear b)
    | (go_at_call 18; (with_reducible refine (HE.out _ (HV.out.below b4)).mono ?_); rintro e w5 ⟨rfl, b⟩; have b5 := bt b4 b; clear b))
  go_ret
  exact ⟨rfl, b5⟩
end Go.Proofs.YtlipjedofegciaaDoor
/- Layer 1: integers as their texts; the operations on them. -/
namespace Go.Proofs.YtlipjedofegciaaDoor
open Go Go.RowKit

/-- The canonical text of an integer. -/
def rep (z : Int) : ByteArray := ⟨(Lib.itoa z).toArray⟩
theorem rep_data (z : Int) : (rep z).data.toList = Lib.itoa z := rfl
theorem rep_num (s : ByteArray) (h : chk s.data.toList = 0) : s = rep (num s.data.toList) := by
  obtain ⟨⟨l⟩⟩ := s
  show _ = (⟨(Lib.itoa (num l)).toArray⟩ : ByteArray)
  rw [← itoa_zero_num l h]
theorem rep_inj {x y : Int} (h : rep x = rep y) : x = y := by
  have : (rep x).data.toList = (rep y).data.toList := by rw [h]
  rw [rep_data, rep_data] at this
  exact itoa_inj this
theorem itoa_ne (z : Int) : Lib.itoa z ≠ [] := by
  intro h
  have h1 := num_itoa z
  rw [h] at h1
  have h2 : z = 0 := by rw [← h1]; decide +kernel
  rw [h2] at h
  exact absurd h (by decide +kernel)
theorem rep_zero : rep 0 = ⟨#[48]⟩ := by decide +kernel
theorem rep_one : rep 1 = ⟨#[49]⟩ := by decide +kernel
/-- Of at most k digits. -/
def Dg (k : Nat) (z : Int) : Prop := z.natAbs < 10 ^ k
theorem Dg.mono {k m : Nat} {z : Int} (h : Dg k z) (hk : k ≤ m) : Dg m z := Nat.lt_of_lt_of_le h (Nat.pow_le_pow_right (by omega) hk)
theorem Dg.add {k : Nat} {x y : Int} (hx : Dg k x) (hy : Dg k y) : Dg (k + 1) (x + y) := by
  unfold Dg at *
  have := Int.natAbs_add_le x y
  rw [Nat.pow_succ]
  omega
theorem Dg.neg {k : Nat} {x : Int} (hx : Dg k x) : Dg k (-x) := by unfold Dg at *; rwa [Int.natAbs_neg]
theorem Dg.sub {k : Nat} {x y : Int} (hx : Dg k x) (hy : Dg k y) : Dg (k + 1) (x - y) := by rw [Int.sub_eq_add_neg]; exact hx.add hy.neg
theorem Dg.mul {k m : Nat} {x y : Int} (hx : Dg k x) (hy : Dg m y) : Dg (k + m) (x * y) := by
  unfold Dg at *
  rw [Int.natAbs_mul, Nat.pow_add]
  exact Nat.mul_lt_mul'' hx hy
theorem Dg.zero (k : Nat) : Dg k 0 := by unfold Dg; exact Nat.pow_pos (by omega)
theorem Dg.lim {k : Nat} {z : Int} (h : Dg k z) (hk : k ≤ 1000) : z.natAbs < lim := Nat.lt_of_lt_of_le h (le_lim k hk)
theorem dg_of {s : ByteArray} {n : Nat} (h : chk s.data.toList = 0) (hn : s.size ≤ n) : Dg n (num s.data.toList) := by
  obtain ⟨h1, h2⟩ := bod_len_of_chk h
  have hb := bod_length s.data.toList
  rw [← Lib.size_eq] at hb
  unfold Dg
  rw [num_natAbs]
  refine Nat.lt_of_lt_of_le (vl_lt 10 _ h2) (Nat.pow_le_pow_right (by omega) ?_)
  rw [dgs_length]; omega
theorem rep_size {z : Int} (h : z.natAbs < lim) : (rep z).size ≤ maxLen := by
  have := len_of_chk (chk_of_abs h)
  show (Lib.itoa z).length ≤ maxLen
  unfold maxLen; omega
theorem opS_rep {f : Int → Int → Int} {x y z : Int} (hx : x.natAbs < lim) (hy : y.natAbs < lim) (hz : f x y = z) (hl : z.natAbs < lim) : opS f (rep x).data.toList (rep y).data.toList = (Lib.itoa z, 0) := by
  subst hz
  rw [rep_data, rep_data, opS_ok (by unfold bothE; rw [if_pos (chk_of_abs hx)]; exact chk_of_abs hy), num_itoa, num_itoa]
  unfold limS
  rw [if_pos hl]
def StrR (z : ByteArray) (w : World) (e : Ending) (w' : World) : Prop := e = .returned (.string z) ∧ Below w.heap.size w w'

section
variable {x y z : Int} (hx : x.natAbs < lim) (hy : y.natAbs < lim)
include hx hy
theorem opadd_rep (hz : x + y = z) (hl : z.natAbs < lim) (s t r : ByteArray) (hs : rep x = s) (ht : rep y = t) (hr : rep z = r) (w : World) (hv : VarT w) : Calls Tryd.prog 34 #[.func (.func 14) #[] #[], .string s, .string t] w (StrR r w) := by
  subst hs; subst ht; subst hr
  have h := op_add (rep x) (rep y) (rep_size hx) (rep_size hy) w hv
  rw [opS_rep hx hy hz hl] at h
  exact h
theorem opsub_rep (hz : x - y = z) (hl : z.natAbs < lim) (s t r : ByteArray) (hs : rep x = s) (ht : rep y = t) (hr : rep z = r) (w : World) (hv : VarT w) : Calls Tryd.prog 34 #[.func (.func 15) #[] #[], .string s, .string t] w (StrR r w) := by
  subst hs; subst ht; subst hr
  have h := op_sub (rep x) (rep y) (rep_size hx) (rep_size hy) w hv
  rw [opS_rep hx hy hz hl] at h
  exact h
theorem opmul_rep (hz : x * y = z) (hl : z.natAbs < lim) (s t r : ByteArray) (hs : rep x = s) (ht : rep y = t) (hr : rep z = r) (w : World) (hv : VarT w) : Calls Tryd.prog 34 #[.func (.func 16) #[] #[], .string s, .string t] w (StrR r w) := by
  subst hs; subst ht; subst hr
  have h := op_mul (rep x) (rep y) (rep_size hx) (rep_size hy) w hv
  rw [opS_rep hx hy hz hl] at h
  exact h
end
end Go.Proofs.YtlipjedofegciaaDoor
/- Layer 1: fits of two and three. -/
namespace Go.Proofs.YtlipjedofegciaaDoor
open Go Go.RowKit

theorem fits_three (n : Nat) (hn : n ≤ 1000000) (s t u : ByteArray) (b : Bool) (hb : fitB n [s, t, u] = b) (w : World) (ty : TypeId) :
    Calls Tryd.prog 33 #[.int .i64 n, .slice (some ⟨w.heap.size, 0, none⟩) 3 3] (w.alloc (.cells #[.string s, .string t, .string u] ty)) fun e w' => e = .returned (.bool b) ∧ Below (w.alloc (.cells #[.string s, .string t, .string u] ty)).heap.size (w.alloc (.cells #[.string s, .string t, .string u] ty)) w' := by
  subst hb
  exact fits_any n hn (some ⟨w.heap.size, 0, none⟩) 3 [s, t, u] (w.alloc (.cells #[.string s, .string t, .string u] ty)) (SlA.of_cells (heap_alloc_new w _) rfl) (by simp)
theorem fits_two (n : Nat) (hn : n ≤ 1000000) (s t : ByteArray) (b : Bool) (hb : fitB n [s, t] = b) (w : World) (ty : TypeId) :
    Calls Tryd.prog 33 #[.int .i64 n, .slice (some ⟨w.heap.size, 0, none⟩) 2 2] (w.alloc (.cells #[.string s, .string t] ty)) fun e w' => e = .returned (.bool b) ∧ Below (w.alloc (.cells #[.string s, .string t] ty)).heap.size (w.alloc (.cells #[.string s, .string t] ty)) w' := by
  subst hb
  exact fits_any n hn (some ⟨w.heap.size, 0, none⟩) 2 [s, t] (w.alloc (.cells #[.string s, .string t] ty)) (SlA.of_cells (heap_alloc_new w _) rfl) (by simp)
theorem fit_three {n : Nat} {s t u : ByteArray} (h : fitB n [s, t, u] = true) : (s.size ≤ n ∧ chk s.data.toList = 0) ∧ (t.size ≤ n ∧ chk t.data.toList = 0) ∧ (u.size ≤ n ∧ chk u.data.toList = 0) := by
  simpa [fitB, and_assoc] using h
theorem fit_two {n : Nat} {s t : ByteArray} (h : fitB n [s, t] = true) : (s.size ≤ n ∧ chk s.data.toList = 0) ∧ (t.size ≤ n ∧ chk t.data.toList = 0) := by
  simpa [fitB, and_assoc] using h
theorem rep_ne (z : Int) (s : ByteArray) (h : rep z = s) : (s.toList == []) = false := by
  rw [← h, Lib.toList_data, beq_eq_false_iff_ne]; exact itoa_ne z
theorem dg_one : Dg 1 1 := by unfold Dg; decide
end Go.Proofs.YtlipjedofegciaaDoor
/- Layer 1: the operations on integers as their texts: DivMod, Gcd, Compare. -/
namespace Go.Proofs.YtlipjedofegciaaDoor
open Go Go.RowKit

theorem bothE_rep {x y : Int} (hx : x.natAbs < lim) (hy : y.natAbs < lim) : bothE (rep x).data.toList (rep y).data.toList = 0 := by
  rw [rep_data, rep_data]; unfold bothE; rw [if_pos (chk_of_abs hx)]; exact chk_of_abs hy
theorem dmS_rep {x y q r : Int} (hx : x.natAbs < lim) (hy : y.natAbs < lim) (h0 : y ≠ 0) (hq : x / y = q) (hr : x % y = r) : dmS (rep x).data.toList (rep y).data.toList = (Lib.itoa q, Lib.itoa r, 0) := by
  subst hq; subst hr
  rw [dmS_ok (bothE_rep hx hy) (by rw [rep_data, num_itoa]; exact h0), rep_data, rep_data, num_itoa, num_itoa]
theorem dmS_rep0 {x y : Int} (hx : x.natAbs < lim) (hy : y.natAbs < lim) (h0 : y = 0) : dmS (rep x).data.toList (rep y).data.toList = ([], [], 16) :=
  dmS_zero (bothE_rep hx hy) (by rw [rep_data, num_itoa]; exact h0)
theorem gcS_rep {x y g : Int} (hx : x.natAbs < lim) (hy : y.natAbs < lim) (hg : ((Nat.gcd x.natAbs y.natAbs : Nat) : Int) = g) : gcS (rep x).data.toList (rep y).data.toList = (Lib.itoa g, 0) := by
  subst hg
  rw [gcS_ok (bothE_rep hx hy), rep_data, rep_data, num_itoa, num_itoa]
theorem cmpS_rep {x y c : Int} (hx : x.natAbs < lim) (hy : y.natAbs < lim) (hc : cmpZ x y = c) : cmpS (rep x).data.toList (rep y).data.toList = (c, 0) := by
  subst hc
  unfold cmpS
  rw [if_pos (bothE_rep hx hy), rep_data, rep_data, num_itoa, num_itoa]
def TwoR (q r : ByteArray) (e0 : Int) (w : World) (e : Ending) (w' : World) : Prop := e = .returned (.tuple #[.string q, .string r, .int .i64 e0]) ∧ Below w.heap.size w w'
def OneR (g : ByteArray) (w : World) (e : Ending) (w' : World) : Prop := e = .returned (.tuple #[.string g, .int .i64 0]) ∧ Below w.heap.size w w'
def CmpR (c : Int) (w : World) (e : Ending) (w' : World) : Prop := e = .returned (.tuple #[.int .i64 c, .int .i64 0]) ∧ Below w.heap.size w w'

section
variable {x y : Int} (hx : x.natAbs < lim) (hy : y.natAbs < lim)
include hx hy
theorem divmod_rep {q r : Int} (h0 : y ≠ 0) (hq : x / y = q) (hr : x % y = r) (s t u v : ByteArray) (hs : rep x = s) (ht : rep y = t) (hu : rep q = u) (hv' : rep r = v) (w : World) (hv : VarT w) : Calls Tryd.prog 17 #[.string s, .string t] w (TwoR u v 0 w) := by
  subst hs; subst ht; subst hu; subst hv'
  have h := divmod_any (rep x) (rep y) (rep_size hx) (rep_size hy) w hv
  rw [dmS_rep hx hy h0 hq hr] at h
  exact h
theorem divmod_rep0 (h0 : y = 0) (s t : ByteArray) (hs : rep x = s) (ht : rep y = t) (w : World) (hv : VarT w) : Calls Tryd.prog 17 #[.string s, .string t] w (TwoR ⟨#[]⟩ ⟨#[]⟩ 16 w) := by
  subst hs; subst ht
  have h := divmod_any (rep x) (rep y) (rep_size hx) (rep_size hy) w hv
  rw [dmS_rep0 hx hy h0] at h
  exact h
theorem gcd_rep {g : Int} (hg : ((Nat.gcd x.natAbs y.natAbs : Nat) : Int) = g) (s t u : ByteArray) (hs : rep x = s) (ht : rep y = t) (hu : rep g = u) (w : World) (hv : VarT w) : Calls Tryd.prog 18 #[.string s, .string t] w (OneR u w) := by
  subst hs; subst ht; subst hu
  have h := gcd_any (rep x) (rep y) (rep_size hx) (rep_size hy) w hv
  rw [gcS_rep hx hy hg] at h
  exact h
theorem compare_rep {c : Int} (hc : cmpZ x y = c) (s t : ByteArray) (hs : rep x = s) (ht : rep y = t) (w : World) (hv : VarT w) : Calls Tryd.prog 20 #[.string s, .string t] w (CmpR c w) := by
  subst hs; subst ht
  have h := compare_any (rep x) (rep y) (rep_size hx) (rep_size hy) w hv
  rw [cmpS_rep hx hy hc] at h
  exact h
end

theorem itoa_head_pos (y : Int) (hy : 0 ≤ y) : ∃ c r, Lib.itoa y = c :: r ∧ ¬ c = 45 := by
  obtain ⟨u, rfl⟩ := Int.eq_ofNat_of_zero_le hy
  rcases Nat.eq_zero_or_pos u with rfl | h
  · exact ⟨48, [], itoa_zero, by decide⟩
  · rw [itoa_pos]
    have h1 := (dec_good' u h).1
    cases hl : Lib.decDigits u with
    | nil => rw [hl] at h1; simp [szB] at h1
    | cons c r =>
      refine ⟨c, r, rfl, ?_⟩
      rintro rfl
      rw [hl] at h1
      simp [szB] at h1
/-- The first byte of a text. -/
theorem rep_pos_byte (y : Int) (hy : 0 ≤ y) (s : ByteArray) (hs : rep y = s) : ∃ h0 : 0 < s.size, ((s[0].toNat : Int) == 45) = false := by
  obtain ⟨c, r, e, hc⟩ := itoa_head_pos y hy
  have e2 : s = ⟨⟨c :: r⟩⟩ := by rw [← hs]; unfold rep; rw [e]
  subst e2
  exact ⟨Nat.succ_pos _, beq_of 45 c false (by rw [beq_eq_false_iff_ne]; exact hc) (by omega)⟩
theorem rep_neg_byte (y : Int) (hy : y < 0) (s t : ByteArray) (hs : rep y = s) (ht : rep (-y) = t) : (∃ h0 : 0 < s.size, ((s[0].toNat : Int) == 45) = true) ∧ s.extract 1 s.size = t := by
  obtain ⟨u, hu⟩ := Int.eq_ofNat_of_zero_le (show 0 ≤ -y by omega)
  have hy' : y = -(u : Int) := by omega
  subst hy'
  have e2 : s = ⟨⟨45 :: Lib.decDigits u⟩⟩ := by rw [← hs]; unfold rep; rw [itoa_neg u (by omega)]
  have e3 : t = ⟨⟨Lib.decDigits u⟩⟩ := by rw [← ht, Int.neg_neg]; unfold rep; rw [itoa_pos]
  subst e2
  subst e3
  exact ⟨⟨Nat.succ_pos _, beq_of 45 45 true rfl (by omega)⟩, extract_tail _ _⟩
theorem Dg.of_le {k : Nat} {x y : Int} (h : Dg k x) (hy : y.natAbs ≤ x.natAbs) : Dg k y := Nat.lt_of_le_of_lt hy h
theorem Dg.div {k : Nat} {x : Int} (h : Dg k x) (y : Int) : Dg k (x / y) := h.of_le (Int.natAbs_ediv_le_natAbs x y)
theorem Dg.mod {k : Nat} {y : Int} (h : Dg k y) (x : Int) (h0 : y ≠ 0) : Dg k (x % y) := h.of_le (by
  have h1 := Int.emod_nonneg x h0
  have h2 := Int.emod_lt x h0
  omega)
theorem Dg.abs {k : Nat} {y : Int} (h : Dg k y) : Dg k (y.natAbs : Int) := h.of_le (by omega)
end Go.Proofs.YtlipjedofegciaaDoor
/- Layer 1: comparing. -/
namespace Go.Proofs.YtlipjedofegciaaDoor
open Go Go.RowKit

theorem cmp_low {r : Int} (h : 0 ≤ r) : ∃ c, cmpZ 0 r = c ∧ c ≤ 0 := ⟨_, rfl, by unfold cmpZ; split <;> (try split) <;> omega⟩
theorem cmp_high {r b : Int} (h : r < b) : cmpZ r b = -1 := by unfold cmpZ; rw [if_pos h]
end Go.Proofs.YtlipjedofegciaaDoor
/- Layer 1: comparing, more. -/
namespace Go.Proofs.YtlipjedofegciaaDoor
open Go Go.RowKit

theorem cmpZ_lt {x y : Int} (h : x < y) : cmpZ x y = -1 := by unfold cmpZ; rw [if_pos h]
theorem cmpZ_gt {x y : Int} (h : y < x) : cmpZ x y = 1 := by unfold cmpZ; rw [if_neg (by omega), if_pos h]
theorem cmpZ_eq (x : Int) : cmpZ x x = 0 := by unfold cmpZ; rw [if_neg (by omega), if_neg (by omega)]
theorem cmpZ_tri (x y : Int) : (x < y ∧ cmpZ x y = -1) ∨ (x = y ∧ cmpZ x y = 0) ∨ (y < x ∧ cmpZ x y = 1) := by
  rcases Int.lt_trichotomy x y with h | h | h
  · exact .inl ⟨h, cmpZ_lt h⟩
  · subst h; exact .inr (.inl ⟨rfl, cmpZ_eq x⟩)
  · exact .inr (.inr ⟨h, cmpZ_gt h⟩)
theorem cmpZ_bd (x y : Int) : -1 ≤ cmpZ x y ∧ cmpZ x y ≤ 1 := by
  rcases cmpZ_tri x y with ⟨_, h⟩ | ⟨_, h⟩ | ⟨_, h⟩ <;> rw [h] <;> omega
theorem cmpZ_add (x y z : Int) : cmpZ (x + z) (y + z) = cmpZ x y := by unfold cmpZ; simp [Int.add_lt_add_iff_right]
theorem cmpZ_mul (x y z : Int) : cmpZ (x * z) (y * z) = cmpZ x y * cmpZ z 0 := by
  rcases Int.lt_trichotomy z 0 with h | h | h
  · rw [cmpZ_lt h]
    rcases cmpZ_tri x y with ⟨h1, e⟩ | ⟨h1, e⟩ | ⟨h1, e⟩
    · rw [e, cmpZ_gt (Int.mul_lt_mul_of_neg_right h1 h)]; rfl
    · rw [e, h1, cmpZ_eq]; rfl
    · rw [e, cmpZ_lt (Int.mul_lt_mul_of_neg_right h1 h)]; rfl
  · subst h; rw [Int.mul_zero, Int.mul_zero, cmpZ_eq, Int.mul_zero]
  · rw [cmpZ_gt h]
    rcases cmpZ_tri x y with ⟨h1, e⟩ | ⟨h1, e⟩ | ⟨h1, e⟩
    · rw [e, cmpZ_lt (Int.mul_lt_mul_of_pos_right h1 h)]; rfl
    · rw [e, h1, cmpZ_eq]; rfl
    · rw [e, cmpZ_gt (Int.mul_lt_mul_of_pos_right h1 h)]; rfl
end Go.Proofs.YtlipjedofegciaaDoor
/- Layer 1: common divisors. -/
namespace Go.Proofs.YtlipjedofegciaaDoor
open Go Go.RowKit

theorem dg_gcd {k : Nat} {x y : Int} (hx : Dg k x) (hy : Dg k y) : Dg k ((Nat.gcd x.natAbs y.natAbs : Nat) : Int) := by
  unfold Dg at *
  rw [Int.natAbs_natCast]
  rcases Nat.eq_zero_or_pos x.natAbs with h | h
  · rw [h, Nat.gcd_zero_left]; exact hy
  · exact Nat.lt_of_le_of_lt (Nat.gcd_le_left _ h) hx
theorem gcd_mod_left (x y : Int) : x % ((Nat.gcd x.natAbs y.natAbs : Nat) : Int) = 0 :=
  Int.emod_eq_zero_of_dvd (Int.ofNat_dvd_left.2 (Nat.gcd_dvd_left _ _))
theorem gcd_mod_right (x y : Int) : y % ((Nat.gcd x.natAbs y.natAbs : Nat) : Int) = 0 :=
  Int.emod_eq_zero_of_dvd (Int.ofNat_dvd_left.2 (Nat.gcd_dvd_right _ _))
theorem gcd_flip (x y : Int) : ((Nat.gcd y.natAbs (0 - x).natAbs : Nat) : Int) = ((Nat.gcd x.natAbs y.natAbs : Nat) : Int) := by
  rw [Int.zero_sub, Int.natAbs_neg, Nat.gcd_comm]
theorem gcd_scale (x y k : Int) : ((Nat.gcd (x * k).natAbs (y * k).natAbs : Nat) : Int) = ((Nat.gcd x.natAbs y.natAbs : Nat) : Int) * (k.natAbs : Int) := by
  rw [Int.natAbs_mul, Int.natAbs_mul, Nat.gcd_mul_right, Int.natCast_mul]
end Go.Proofs.YtlipjedofegciaaDoor
/- Layer 1: integers of nines. -/
namespace Go.Proofs.YtlipjedofegciaaDoor
open Go Go.RowKit

def nine (n : Nat) : List UInt8 := List.replicate n 57
theorem nine_dgs : ∀ n, vl 10 (dgs (nine n)) + 1 = 10 ^ n := by
  intro n
  have h : dgs (nine n) = List.replicate n 9 := by
    unfold dgs nine
    rw [List.reverse_replicate, List.map_replicate]; rfl
  rw [h]
  clear h
  induction n with
  | zero => rfl
  | succ n ih =>
    rw [List.replicate_succ, Nat.pow_succ]
    simp only [vl]
    omega
theorem nine_ng (n : Nat) : ngB (nine n) = false := by
  cases n with
  | zero => rfl
  | succ n => rfl
theorem nine_bod (n : Nat) : bod (nine n) = nine n := bod_pos _ (nine_ng n)
theorem nine_num (n : Nat) : num (nine n) = (10 ^ n : Nat) - 1 := by
  have h := nine_dgs n
  unfold num
  rw [nine_ng, nine_bod, ← h]
  simp
theorem nine_chk (n : Nat) (h : 0 < n) : chk (nine n) = if 1000 < n then 14 else 0 := by
  obtain ⟨m, rfl⟩ : ∃ m, n = m + 1 := ⟨n - 1, by omega⟩
  have h0 : ¬ nine (m + 1) = [48] := by unfold nine; rw [List.replicate_succ]; simp
  have h1 : szB (nine (m + 1)) = true := by unfold nine; rw [List.replicate_succ]; rfl
  have h2 : odB (nine (m + 1)) = true := by unfold odB nine; rw [List.all_replicate]; simp [dgB]
  have h3 : (nine (m + 1)).length = m + 1 := by unfold nine; simp
  unfold chk
  rw [if_neg h0, nine_bod, h1, h2, h3]
  rfl
theorem minus_nine (n : Nat) : ngB (45 :: nine n) = true ∧ bod (45 :: nine n) = nine n := ⟨rfl, bod_neg _⟩
theorem minus_num (n : Nat) : num (45 :: nine n) = -((10 ^ n : Nat) - 1 : Int) := by
  have h := nine_num n
  have h2 := nine_dgs n
  unfold num
  rw [(minus_nine n).1, (minus_nine n).2, ← h2]
  simp
theorem minus_chk (n : Nat) (h : 0 < n) : chk (45 :: nine n) = if 1000 < n then 14 else 0 := by
  obtain ⟨m, rfl⟩ : ∃ m, n = m + 1 := ⟨n - 1, by omega⟩
  have h0 : ¬ 45 :: nine (m + 1) = [48] := by simp
  have h1 : szB (nine (m + 1)) = true := by unfold nine; rw [List.replicate_succ]; rfl
  have h2 : odB (nine (m + 1)) = true := by unfold odB nine; rw [List.all_replicate]; simp [dgB]
  have h3 : (nine (m + 1)).length = m + 1 := by unfold nine; simp
  unfold chk
  rw [if_neg h0, (minus_nine _).2, h1, h2, h3]
  rfl
/-- The greatest integer of 1,000 digits. -/
theorem big_facts : ∃ big : List UInt8, big = nine thou ∧ chk big = 0 ∧ num big = (lim : Int) - 1 ∧ chk (45 :: big) = 0 ∧ num (45 :: big) = -((lim : Int) - 1) ∧ big.length = thou :=
  ⟨nine thou, rfl, by rw [nine_chk thou (by decide), if_neg (by decide)], by unfold lim; exact nine_num thou, by rw [minus_chk thou (by decide), if_neg (by decide)], by unfold lim; exact minus_num thou, by unfold nine; simp⟩
theorem big1_facts : chk (nine 1001) = 14 := by rw [nine_chk 1001 (by decide)]; rfl

set_option maxRecDepth 100000 in
set_option maxHeartbeats 800000 in
theorem nines_any (n : Nat) (hn : n ≤ 1000000) (w : World) : Calls Tryd.prog 13 #[.int .i64 n] w fun e w' => e = .returned (.string ⟨(nine n).toArray⟩) ∧ Below w.heap.size w w' := by
  obtain ⟨i0, hi, hz0, hz1, hz2⟩ := info_parts Tryd.info5'
  go_enter Tryd.func13, Tryd.ntmps13
  go_wp2
  go_loopw [3, 4] (fun b i wr => ∃ k : Nat, k ≤ n ∧ i = .int .i64 k ∧ wr.ownsRow w.heap.size 5 1 b k (Lib.byteCells (nine k)) ∧ Below w.heap.size w wr) (fun _ i _ => n - (intOf i).toNat)
  case atStart => exact ⟨0, Nat.zero_le _, rfl, World.ownsRow_nil _ _ _ _, Below.refl _ _⟩
  case round =>
    obtain ⟨k, hk, rfl, hown, hbel⟩ := hrel
    by_cases hlt : k < n
    · have hsz := hbel.size
      go_wp2_with (at_builtin; refine wpList_app1 hown _ rfl _ _ 64 rfl i0 (.int .u8 0) 1 Tryd.underlying64 hi hz0 hz1 hz2 rfl rfl rfl rfl (by unfold maxLen; omega) (by omega) (by omega) ?_; intro v' w' hown' hb')
      go_roundw
      case rel => exact ⟨k + 1, by omega, by go_num, by
        have := own_byte hown' (n := 57) rfl (by omega)
        rw [show nine k ++ [UInt8.ofNat 57] = nine (k + 1) by unfold nine; rw [List.replicate_succ']; rfl] at this
        exact this, hbel.trans hb'⟩
      case measure => simp [intOf]; omega
    · obtain rfl : k = n := by omega
      have HC := conv_own (P := Tryd.prog) hown 64 22 Tryd.underlying64 Tryd.underlying5 Tryd.underlying22
      clear hown
      go_wp2
      go_ret
      exact ⟨rfl, hbel⟩
end Go.Proofs.YtlipjedofegciaaDoor

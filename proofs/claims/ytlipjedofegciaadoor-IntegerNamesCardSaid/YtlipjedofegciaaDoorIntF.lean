/- The walks of layer 1: what the laws share: op, fits. -/
import Derived.Test.YtlipjedofegciaaDoorIntL3
namespace Go.Proofs.YtlipjedofegciaaDoor
open Go Go.RowKit

/-- What an operation's text is: nothing where there is an error. -/
theorem opS_text {f : Int → Int → Int} {l m : List UInt8} (h : ¬ (opS f l m).2 = 0) : (opS f l m).1 = [] := by
  unfold opS limS at h ⊢
  split
  · next e =>
    rw [if_pos e] at h
    split
    · next g => rw [if_pos g] at h; exact absurd rfl h
    · rfl
  · rfl

set_option maxRecDepth 100000 in
set_option maxHeartbeats 800000 in
theorem op_of_add (s t : ByteArray) (r : List UInt8 × Int) (hr : ¬ r.2 = 0 → r.1 = []) (w : World)
    (H : Calls Tryd.prog 14 #[.string s, .string t] w fun e w' => e = .returned (.tuple #[.string ⟨r.1.toArray⟩, .int .i64 r.2]) ∧ Below w.heap.size w w') :
    Calls Tryd.prog 34 #[.func (.func 14) #[] #[], .string s, .string t] w fun e w' => e = .returned (.string ⟨r.1.toArray⟩) ∧ Below w.heap.size w w' := by
  have H1 := Lib.hid H
  clear H
  obtain ⟨r1, r2⟩ := r
  by_cases h0 : r2 = 0
  · subst h0
    clear hr
    go_enter Tryd.func34, Tryd.ntmps34
    go_wp2_with fail
    refine H1.out.mono ?_
    rintro e w1 ⟨rfl, hb⟩
    go_wp2
    go_ret
    exact ⟨rfl, hb⟩
  · have h1 : r1 = [] := hr h0
    subst h1
    have h2 : (r2 == 0) = false := by rw [beq_eq_false_iff_ne]; exact h0
    clear hr h0
    go_enter Tryd.func34, Tryd.ntmps34
    go_wp2_with fail
    refine H1.out.mono ?_
    rintro e w1 ⟨rfl, hb⟩
    go_wp2
    go_ret
    exact ⟨rfl, hb⟩

set_option maxRecDepth 100000 in
set_option maxHeartbeats 800000 in
theorem op_of_sub (s t : ByteArray) (r : List UInt8 × Int) (hr : ¬ r.2 = 0 → r.1 = []) (w : World)
    (H : Calls Tryd.prog 15 #[.string s, .string t] w fun e w' => e = .returned (.tuple #[.string ⟨r.1.toArray⟩, .int .i64 r.2]) ∧ Below w.heap.size w w') :
    Calls Tryd.prog 34 #[.func (.func 15) #[] #[], .string s, .string t] w fun e w' => e = .returned (.string ⟨r.1.toArray⟩) ∧ Below w.heap.size w w' := by
  have H1 := Lib.hid H
  clear H
  obtain ⟨r1, r2⟩ := r
  by_cases h0 : r2 = 0
  · subst h0
    clear hr
    go_enter Tryd.func34, Tryd.ntmps34
    go_wp2_with fail
    refine H1.out.mono ?_
    rintro e w1 ⟨rfl, hb⟩
    go_wp2
    go_ret
    exact ⟨rfl, hb⟩
  · have h1 : r1 = [] := hr h0
    subst h1
    have h2 : (r2 == 0) = false := by rw [beq_eq_false_iff_ne]; exact h0
    clear hr h0
    go_enter Tryd.func34, Tryd.ntmps34
    go_wp2_with fail
    refine H1.out.mono ?_
    rintro e w1 ⟨rfl, hb⟩
    go_wp2
    go_ret
    exact ⟨rfl, hb⟩

set_option maxRecDepth 100000 in
set_option maxHeartbeats 800000 in
theorem op_of_mul (s t : ByteArray) (r : List UInt8 × Int) (hr : ¬ r.2 = 0 → r.1 = []) (w : World)
    (H : Calls Tryd.prog 16 #[.string s, .string t] w fun e w' => e = .returned (.tuple #[.string ⟨r.1.toArray⟩, .int .i64 r.2]) ∧ Below w.heap.size w w') :
    Calls Tryd.prog 34 #[.func (.func 16) #[] #[], .string s, .string t] w fun e w' => e = .returned (.string ⟨r.1.toArray⟩) ∧ Below w.heap.size w w' := by
  have H1 := Lib.hid H
  clear H
  obtain ⟨r1, r2⟩ := r
  by_cases h0 : r2 = 0
  · subst h0
    clear hr
    go_enter Tryd.func34, Tryd.ntmps34
    go_wp2_with fail
    refine H1.out.mono ?_
    rintro e w1 ⟨rfl, hb⟩
    go_wp2
    go_ret
    exact ⟨rfl, hb⟩
  · have h1 : r1 = [] := hr h0
    subst h1
    have h2 : (r2 == 0) = false := by rw [beq_eq_false_iff_ne]; exact h0
    clear hr h0
    go_enter Tryd.func34, Tryd.ntmps34
    go_wp2_with fail
    refine H1.out.mono ?_
    rintro e w1 ⟨rfl, hb⟩
    go_wp2
    go_ret
    exact ⟨rfl, hb⟩

section
variable (s t : ByteArray) (hs : s.size ≤ maxLen) (ht : t.size ≤ maxLen) (w : World) (hv : VarT w)
include hs ht hv
theorem op_add : Calls Tryd.prog 34 #[.func (.func 14) #[] #[], .string s, .string t] w fun e w' => e = .returned (.string ⟨(opS (· + ·) s.data.toList t.data.toList).1.toArray⟩) ∧ Below w.heap.size w w' :=
  op_of_add s t _ opS_text w (add_any s t hs ht w hv)
theorem op_sub : Calls Tryd.prog 34 #[.func (.func 15) #[] #[], .string s, .string t] w fun e w' => e = .returned (.string ⟨(opS (· - ·) s.data.toList t.data.toList).1.toArray⟩) ∧ Below w.heap.size w w' :=
  op_of_sub s t _ opS_text w (sub_any s t hs ht w hv)
theorem op_mul : Calls Tryd.prog 34 #[.func (.func 16) #[] #[], .string s, .string t] w fun e w' => e = .returned (.string ⟨(opS (· * ·) s.data.toList t.data.toList).1.toArray⟩) ∧ Below w.heap.size w w' :=
  op_of_mul s t _ opS_text w (mul_any s t hs ht w hv)
end

/-- All strings are canonical integers of at most n bytes. -/
def fitB (n : Nat) (ss : List ByteArray) : Bool := ss.all fun s => decide (s.size ≤ n) && decide (chk s.data.toList = 0)
theorem fitB_next {n k : Nat} {ss : List ByteArray} (h : k < ss.length) (ha : fitB n (ss.take k) = true) (h1 : ss[k].size ≤ n) (h2 : chk ss[k].data.toList = 0) : fitB n (ss.take (k + 1)) = true := by
  rw [take_snoc ss k h]
  unfold fitB at ha ⊢
  rw [List.all_append, ha]
  simp [h1, h2]
theorem fitB_not {n k : Nat} {ss : List ByteArray} (h : k < ss.length) (h1 : ¬ (ss[k].size ≤ n ∧ chk ss[k].data.toList = 0)) : fitB n ss = false := by
  unfold fitB
  rw [List.all_eq_false]
  refine ⟨ss[k], List.getElem_mem h, ?_⟩
  simpa using h1

set_option maxRecDepth 100000 in
set_option maxHeartbeats 800000 in
theorem fits_any (n : Nat) (hn : n ≤ 1000000) (A : Option Addr) (c : Nat) (ss : List ByteArray) (w : World) (hA : SlA Value.string w A ss) (hs : ss.length ≤ 1000000) :
    Calls Tryd.prog 33 #[.int .i64 n, .slice A ss.length c] w fun e w' => e = .returned (.bool (fitB n ss)) ∧ Below w.heap.size w w' := by
  go_enter Tryd.func33, Tryd.ntmps33
  go_wp2
  go_loopw [5] (fun i wr => ∃ k : Nat, k ≤ ss.length ∧ i = .int .i64 k ∧ Hid (fitB n (ss.take k) = true) ∧ Below w.heap.size w wr) (fun i _ => ss.length - (intOf i).toNat)
  case atStart => exact ⟨0, Nat.zero_le _, rfl, rfl, Below.refl _ _⟩
  case round =>
    obtain ⟨k, hk, rfl, hfit, hbel⟩ := hrel
    by_cases hlt : k < ss.length
    · obtain ⟨b, o, rfl, _, hc⟩ := (hA.below hbel).get hlt
      have HN := Lib.hid (fun h1 h2 => fitB_next hlt hfit.out h1 h2)
      have HX := Lib.hid (fun h1 => fitB_not (n := n) hlt h1)
      generalize ss[k] = x at *
      by_cases hx : x.size ≤ n
      · have HC := Lib.hid (fun W => refCheck_any x W (by omega))
        by_cases h0 : chk x.data.toList = 0
        · have HN2 := Lib.hid (HN.out hx h0)
          rw [h0] at HC
          have hx' : ¬ (n : Int) < (x.size : Int) := by omega
          clear hA HX HN h0 hfit hx
          go_wp2_with (go_at_call 28; refine (HC.out _).mono ?_; rintro e w1 ⟨rfl, hb1⟩)
          go_roundw
          case rel => exact ⟨k + 1, by omega, by go_num, HN2, hbel.trans (hb1.mono hbel.size)⟩
          case measure => simp [intOf]; omega
        · have HX2 := Lib.hid (HX.out (fun h => h0 h.2))
          obtain ⟨z, hz⟩ : ∃ z, chk x.data.toList = z := ⟨_, rfl⟩
          rw [hz] at HC h0
          have h1 : (z == 0) = false := by rw [beq_eq_false_iff_ne]; exact h0
          have hx' : ¬ (n : Int) < (x.size : Int) := by omega
          clear hA HX HN h0 hfit hz hx
          go_wp2_with (go_at_call 28; refine (HC.out _).mono ?_; rintro e w1 ⟨rfl, hb1⟩)
          go_ret
          exact ⟨ret_bool HX2.out.symm, hbel.trans (hb1.mono hbel.size)⟩
      · have HX2 := Lib.hid (HX.out (fun h => hx h.1))
        have hx' : (n : Int) < (x.size : Int) := by omega
        clear hA HX HN hfit hx
        go_wp2
        go_ret
        exact ⟨ret_bool HX2.out.symm, hbel⟩
    · obtain rfl : k = ss.length := by omega
      have HF : Hid (fitB n ss = true) := by have := hfit.out; rwa [List.take_of_length_le (Nat.le_refl _)] at this
      clear hfit
      go_wp2
      go_ret
      exact ⟨ret_bool HF.out.symm, hbel⟩
end Go.Proofs.YtlipjedofegciaaDoor

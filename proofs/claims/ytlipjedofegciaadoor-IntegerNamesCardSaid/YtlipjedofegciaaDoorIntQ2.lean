/- Layer 1: quotients and rests as texts, and greatest common divisors. -/
import Derived.Test.YtlipjedofegciaaDoorIntQ
namespace Go.Proofs.YtlipjedofegciaaDoor
open Go Go.RowKit

/-- What DivMod answers. -/
def dmS (l m : List UInt8) : List UInt8 × List UInt8 × Int :=
  if bothE l m = 0 then (if num m = 0 then ([], [], 16) else (Lib.itoa (num l / num m), Lib.itoa (num l % num m), 0)) else ([], [], bothE l m)
/-- What Gcd answers. -/
def gcS (l m : List UInt8) : List UInt8 × Int :=
  if bothE l m = 0 then (Lib.itoa ((Nat.gcd (num l).natAbs (num m).natAbs : Nat) : Int), 0) else ([], bothE l m)
theorem dmS_err {l m : List UInt8} (h : ¬ bothE l m = 0) : dmS l m = ([], [], bothE l m) := by unfold dmS; rw [if_neg h]
theorem dmS_zero {l m : List UInt8} (h : bothE l m = 0) (h0 : num m = 0) : dmS l m = ([], [], 16) := by unfold dmS; rw [if_pos h, if_pos h0]
theorem dmS_ok {l m : List UInt8} (h : bothE l m = 0) (h0 : ¬ num m = 0) : dmS l m = (Lib.itoa (num l / num m), Lib.itoa (num l % num m), 0) := by unfold dmS; rw [if_pos h, if_neg h0]
theorem gcS_err {l m : List UInt8} (h : ¬ bothE l m = 0) : gcS l m = ([], bothE l m) := by unfold gcS; rw [if_neg h]
theorem gcS_ok {l m : List UInt8} (h : bothE l m = 0) : gcS l m = (Lib.itoa ((Nat.gcd (num l).natAbs (num m).natAbs : Nat) : Int), 0) := by unfold gcS; rw [if_pos h]

theorem dm_u (Y : Nat) (hY : 0 < Y) (n : Bool) (a q : Int) (r : Nat) (h : (r : Int) + (Y : Int) * q = a) (hr : r < Y) : a / sgn n Y = (if n then -q else q) ∧ a % sgn n Y = (r : Int) := by
  have h1 := (Int.ediv_emod_unique (a := a) (b := (Y : Int)) (r := (r : Int)) (q := q) (by omega)).2 ⟨h, by omega, by omega⟩
  cases n with
  | false => exact h1
  | true =>
    have e : sgn true Y = -(Y : Int) := rfl
    rw [e, Int.ediv_neg, Int.emod_neg, h1.1, h1.2]
    exact ⟨rfl, rfl⟩
theorem sgn_zero (m : Bool) : sgn m 0 = 0 := by cases m <;> rfl
theorem sgn_natAbs (m : Bool) (u : Nat) : (sgn m u).natAbs = u := by cases m <;> simp [sgn]
theorem sgn_eq_zero {m : Bool} {u : Nat} (h : sgn m u = 0) : u = 0 := by have := sgn_natAbs m u; rw [h] at this; simpa using this.symm
theorem dm_pos (n : Bool) (X Y : Nat) (hY : 0 < Y) : sgn false X / sgn n Y = sgn (!(false == n)) (X / Y) ∧ sgn false X % sgn n Y = ((X % Y : Nat) : Int) := by
  have h := dm_u Y hY n (X : Int) ((X / Y : Nat) : Int) (X % Y) (by rw [← Int.natCast_mul, ← Int.natCast_add, Nat.mod_add_div]) (Nat.mod_lt _ hY)
  cases n <;> exact h
theorem dm_neg_zero (n : Bool) (X Y : Nat) (hY : 0 < Y) (h0 : X % Y = 0) : sgn true X / sgn n Y = sgn (!(true == n)) (X / Y) ∧ sgn true X % sgn n Y = 0 := by
  have e : sgn true X = -(X : Int) := rfl
  have h := dm_u Y hY n (-(X : Int)) (-((X / Y : Nat) : Int)) 0 (by
    have := Nat.mod_add_div X Y
    rw [h0, Nat.zero_add] at this
    rw [Int.mul_neg, ← Int.natCast_mul, this]; simp) hY
  rw [e]
  refine ⟨h.1.trans ?_, h.2⟩
  cases n <;> simp [sgn]
theorem dm_neg (n : Bool) (X Y : Nat) (hY : 0 < Y) (h0 : ¬ X % Y = 0) : sgn true X / sgn n Y = sgn (!(true == n)) (X / Y + 1) ∧ sgn true X % sgn n Y = ((Y - X % Y : Nat) : Int) := by
  have e : sgn true X = -(X : Int) := rfl
  have hlt := Nat.mod_lt X hY
  have h := dm_u Y hY n (-(X : Int)) (-((X / Y + 1 : Nat) : Int)) (Y - X % Y) (by
    have h1 := Nat.mod_add_div X Y
    have h2 : (X : Int) = ((X % Y : Nat) : Int) + (Y : Int) * ((X / Y : Nat) : Int) := by rw [← Int.natCast_mul, ← Int.natCast_add, h1]
    rw [h2]
    generalize X % Y = r at *
    generalize X / Y = q at *
    have h3 : ((Y - r : Nat) : Int) = (Y : Int) - (r : Int) := by omega
    rw [h3, Int.natCast_add]
    grind) (by omega)
  rw [e]
  refine ⟨h.1.trans ?_, h.2⟩
  cases n <;> simp [sgn]
theorem sgn_false (u : Nat) : sgn false u = (u : Int) := rfl
end Go.Proofs.YtlipjedofegciaaDoor

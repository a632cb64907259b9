/- Layer 6: the reference's walks: Regular, Stub. -/
import Derived.Test.YtfheeipggedaiaaDoorScB
namespace Go.Proofs.YtfheeipggedaiaaDoor
open Go Go.RowKit

/-- Nine cells of a description in memory. -/
theorem row9S {w w' : World} {a0 a1 a2 a3 a4 a5 a6 a7 a8 : Value} {t : TypeId} (h : Below (w.alloc (.cells #[a0, a1, a2, a3, a4, a5, a6, a7, a8] t)).heap.size (w.alloc (.cells #[a0, a1, a2, a3, a4, a5, a6, a7, a8] t)) w') :
    w'.cell? ⟨w.heap.size, 0, none⟩ = some a0 ∧ w'.cell? ⟨w.heap.size, 1, none⟩ = some a1 ∧ w'.cell? ⟨w.heap.size, 2, none⟩ = some a2 ∧ w'.cell? ⟨w.heap.size, 3, none⟩ = some a3 ∧ w'.cell? ⟨w.heap.size, 4, none⟩ = some a4 ∧
    w'.cell? ⟨w.heap.size, 5, none⟩ = some a5 ∧ w'.cell? ⟨w.heap.size, 6, none⟩ = some a6 ∧ w'.cell? ⟨w.heap.size, 7, none⟩ = some a7 ∧ w'.cell? ⟨w.heap.size, 8, none⟩ = some a8 := by
  refine ⟨?_, ?_, ?_, ?_, ?_, ?_, ?_, ?_, ?_⟩ <;> exact cellS h (box_cell w _ _ _ rfl)
section
variable (st en mo : Int) (bk la : Bool) (sb ro we : Int) (A : Option Addr) (c : Nat) (hs : List Int) (y m d : Int)
/-- The k-th regular day, and whether it lies between start and end. -/
def stpV (k : Nat) : Int := smV y m d (mth mo bk k) la
def stpE (k : Nat) : Int := smE y m d (mth mo bk k) la
def stpB (k : Nat) : Bool := decide (stpE mo bk la y m d k = 0) && decide (st < stpV mo bk la y m d k) && decide (stpV mo bk la y m d k < en)
theorem refAddM (b n : Int) (h : IsDate y m d b) (hb : b ≤ 99999) (W : World) : Calls Tryd.prog 53 #[.int .i64 b, .int .i64 n, .bool la] W fun x w' => x = .returned (.tuple #[.int .i64 (smV y m d n la), .int .i64 (smE y m d n la)]) ∧ W = w' := by
  unfold smV smE
  by_cases hn : -4000 ≤ n ∧ n ≤ 4000
  · rw [if_pos hn, if_pos hn]; exact refAddMonths_in y m d b n la h hb hn.1 hn.2 W
  · rw [if_neg hn, if_neg hn]; exact refAddMonths_out b n la (by omega) W
theorem rstep_any (k : Nat) (k0 : 1 ≤ k) (k1 : k ≤ 200) (m0 : 1 ≤ mo) (m1 : mo ≤ 1200) (h : IsDate y m d (bsd st en bk)) (hb : bsd st en bk ≤ 99999) (w : World) :
    Calls Tryd.prog 33 #[.agg #[.int .i64 st, .int .i64 en, .int .i64 mo, .bool bk, .bool la, .int .u8 sb, .int .u8 ro, .int .u8 we, .slice A hs.length c], .int .i64 k] w (StpR (stpV mo bk la y m d k) (stpB st en mo bk la y m d k) w) := by
  cases bk
  · exact rstep_0 st en mo la sb ro we A c hs k _ _ _ (by omega) (by omega) m0 m1 w (fun W => refAddM la y m d st _ h hb W) rfl
  · exact rstep_1 st en mo la sb ro we A c hs k _ _ _ (by omega) (by omega) m0 m1 w (fun W => refAddM la y m d en _ h hb W) rfl
/-- How many regular days lie between start and end: 101 if more than 100. -/
def regN : Nat := reg (stpB st en mo bk la y m d) 101 0
set_option maxRecDepth 100000 in
set_option maxHeartbeats 1600000 in
theorem rregular_any (m0 : 1 ≤ mo) (m1 : mo ≤ 1200) (h : IsDate y m d (bsd st en bk)) (hb : bsd st en bk ≤ 99999) (w : World) :
    Calls Tryd.prog 31 #[.agg #[.int .i64 st, .int .i64 en, .int .i64 mo, .bool bk, .bool la, .int .u8 sb, .int .u8 ro, .int .u8 we, .slice A hs.length c]] w fun e w' => e = .returned (.int .i64 ((regN st en mo bk la y m d : Nat) : Int)) ∧ Below w.heap.size w w' := by
  have HS := Lib.hid (fun (k : Nat) (k0 : 1 ≤ k) (k1 : k ≤ 200) W => rstep_any st en mo bk la sb ro we A c hs y m d k k0 k1 m0 m1 h hb W)
  have HR : Hid (∀ r : Nat, (∀ j, 0 < j → j ≤ r → stpB st en mo bk la y m d j = true) → r ≤ 101 → (r < 101 → stpB st en mo bk la y m d (r + 1) = false) → ((regN st en mo bk la y m d : Nat) : Int) = r) := fun r a b e => by
    show ((reg _ 101 0 : Nat) : Int) = _
    rw [reg_of a b e]
  generalize stpB st en mo bk la y m d = f at *
  generalize stpV mo bk la y m d = g at *
  generalize regN st en mo bk la y m d = R at *
  clear m0 m1 h hb
  go_enter Tryd.func31, Tryd.ntmps31
  go_wp2
  go_loopw [3] (fun i wr => ∃ k : Nat, k ≤ 101 ∧ i = .int .i64 k ∧ Hid (∀ j, 0 < j → j ≤ k → f j = true) ∧ Hid (Below (w.alloc (.cells #[.int .i64 st, .int .i64 en, .int .i64 mo, .bool bk, .bool la, .int .u8 sb, .int .u8 ro, .int .u8 we, .slice A hs.length c] 27)).heap.size (w.alloc (.cells #[.int .i64 st, .int .i64 en, .int .i64 mo, .bool bk, .bool la, .int .u8 sb, .int .u8 ro, .int .u8 we, .slice A hs.length c] 27)) wr)) (fun i _ => 101 - (intOf i).toNat)
  case atStart => exact ⟨0, by omega, rfl, fun j a b => by omega, Below.refl _ _⟩
  case round =>
    obtain ⟨k, hk, rfl, hall, hbel⟩ := hrel
    obtain ⟨q0, q1, q2, q3, q4, q5, q6, q7, q8⟩ := row9S hbel.out
    by_cases hlt : k ≤ 100
    · have hlt' : (k : Int) ≤ 100 := by omega
      have HC := Lib.hid (HS.out (k + 1) (by omega) (by omega))
      rw [show ((k + 1 : Nat) : Int) = (k : Int) + 1 from by omega] at HC
      cases hf : f (k + 1)
      · have HE := Lib.hid (HR.out k hall.out hk (fun _ => hf))
        rw [hf] at HC
        clear hf HS HR hall
        go_wp2_with (go_at_call 33; ((with_reducible refine (HC.out _).mono ?_); rintro e w1 ⟨rfl, b⟩; have B1 := Lib.hid (btS (belE_c _ _) (btS hbel.out b)); clear b))
        go_ret
        exact ⟨ret_intD HE.out.symm, B1.out⟩
      · have HA : Hid (∀ j, 0 < j → j ≤ k + 1 → f j = true) := fun j a b => by
          rcases Nat.lt_or_ge k j with g | g
          · obtain rfl : j = k + 1 := by omega
            exact hf
          · exact hall.out j a g
        rw [hf] at HC
        clear hf HS HR hall
        go_wp2_with (go_at_call 33; ((with_reducible refine (HC.out _).mono ?_); rintro e w1 ⟨rfl, b⟩; have B1 := Lib.hid (btS hbel.out b); clear b))
        go_roundw
        case rel => exact ⟨k + 1, by omega, int_eqD (by omega), HA, B1⟩
        case measure => simp [intOf]; omega
    · obtain rfl : k = 101 := by omega
      have HE := Lib.hid (HR.out 101 hall.out hk (fun h => absurd h (by omega)))
      clear HS HR hall
      go_wp2
      go_ret
      exact ⟨ret_intD HE.out.symm, btS (belE_c _ _) hbel.out⟩
theorem regN_le : regN st en mo bk la y m d ≤ 101 := by
  have := (reg_spec (stpB st en mo bk la y m d) 101 0).2.1
  unfold regN; omega
end

set_option maxRecDepth 100000 in
set_option maxHeartbeats 1600000 in
theorem rstub_0 (st en mo : Int) (la : Bool) (sb ro we : Int) (A : Option Addr) (c : Nat) (hs : List Int) (r t e : Int) (b : Bool) (r0 : 0 ≤ r) (r1 : r ≤ 101) (m0 : 1 ≤ mo) (m1 : mo ≤ 1200) (w : World)
    (H1 : ∀ W, Calls Tryd.prog 31 #[.agg #[.int .i64 st, .int .i64 en, .int .i64 mo, .bool false, .bool la, .int .u8 sb, .int .u8 ro, .int .u8 we, .slice A hs.length c]] W fun e w' => e = .returned (.int .i64 r) ∧ Below W.heap.size W w')
    (H2 : ∀ W, Calls Tryd.prog 53 #[.int .i64 st, .int .i64 ((r + 1) * mo), .bool la] W fun x w' => x = .returned (.tuple #[.int .i64 t, .int .i64 e]) ∧ W = w')
    (hr : (decide (e ≠ 0) || decide (t ≠ en)) = b) :
    Calls Tryd.prog 32 #[.agg #[.int .i64 st, .int .i64 en, .int .i64 mo, .bool false, .bool la, .int .u8 sb, .int .u8 ro, .int .u8 we, .slice A hs.length c]] w fun e w' => e = .returned (.bool b) ∧ Below w.heap.size w w' := by
  have J1 := Lib.hid H1
  have J2 := Lib.hid H2
  have hb : 0 ≤ (r + 1) * mo ∧ (r + 1) * mo ≤ 240000 := by
    have h1 := Int.mul_le_mul (show r + 1 ≤ 200 by omega) m1 (by omega) (by omega)
    have h2 := Int.mul_nonneg (show 0 ≤ r + 1 by omega) (show 0 ≤ mo by omega)
    omega
  obtain ⟨hb0, hb1⟩ := hb
  have hb2 : -240000 ≤ -(r + 1) * mo ∧ -(r + 1) * mo ≤ 0 := by rw [Int.neg_mul]; omega
  obtain ⟨hb2, hb3⟩ := hb2
  have hc : ((e == 0) = false ∧ (e != 0) = true ∧ b = true) ∨ (e = 0 ∧ (t != en) = b) := by
    by_cases h0 : e = 0
    · refine .inr ⟨h0, ?_⟩
      rw [← hr]
      by_cases h1 : t = en <;> simp [h0, h1]
    · exact .inl ⟨by simp [h0], by simp [h0], by rw [← hr]; simp [h0]⟩
  clear H1 H2 m0 m1 hr
  rcases hc with ⟨h0, h1, rfl⟩ | ⟨rfl, rfl⟩
  all_goals
    go_enter Tryd.func32, Tryd.ntmps32
    go_wp2_with (first
      | (go_at_call 31; ((with_reducible refine (J1.out _).mono ?_); rintro x w1 ⟨rfl, b⟩; obtain ⟨q0, q1, q2, q3, q4, q5, q6, q7, q8⟩ := row9S b; have B1 := Lib.hid (btS (belE_c _ _) b); clear b))
      | (go_at_call 53; ((with_reducible refine (J2.out _).mono ?_); rintro x w2 ⟨rfl, rfl⟩)))
    go_ret
    exact ⟨ret_boolD (by simp), B1.out⟩

set_option maxRecDepth 100000 in
set_option maxHeartbeats 1600000 in
theorem rstub_1 (st en mo : Int) (la : Bool) (sb ro we : Int) (A : Option Addr) (c : Nat) (hs : List Int) (r t e : Int) (b : Bool) (r0 : 0 ≤ r) (r1 : r ≤ 101) (m0 : 1 ≤ mo) (m1 : mo ≤ 1200) (w : World)
    (H1 : ∀ W, Calls Tryd.prog 31 #[.agg #[.int .i64 st, .int .i64 en, .int .i64 mo, .bool true, .bool la, .int .u8 sb, .int .u8 ro, .int .u8 we, .slice A hs.length c]] W fun e w' => e = .returned (.int .i64 r) ∧ Below W.heap.size W w')
    (H2 : ∀ W, Calls Tryd.prog 53 #[.int .i64 en, .int .i64 (-(r + 1) * mo), .bool la] W fun x w' => x = .returned (.tuple #[.int .i64 t, .int .i64 e]) ∧ W = w')
    (hr : (decide (e ≠ 0) || decide (t ≠ st)) = b) :
    Calls Tryd.prog 32 #[.agg #[.int .i64 st, .int .i64 en, .int .i64 mo, .bool true, .bool la, .int .u8 sb, .int .u8 ro, .int .u8 we, .slice A hs.length c]] w fun e w' => e = .returned (.bool b) ∧ Below w.heap.size w w' := by
  have J1 := Lib.hid H1
  have J2 := Lib.hid H2
  have hb : 0 ≤ (r + 1) * mo ∧ (r + 1) * mo ≤ 240000 := by
    have h1 := Int.mul_le_mul (show r + 1 ≤ 200 by omega) m1 (by omega) (by omega)
    have h2 := Int.mul_nonneg (show 0 ≤ r + 1 by omega) (show 0 ≤ mo by omega)
    omega
  obtain ⟨hb0, hb1⟩ := hb
  have hb2 : -240000 ≤ -(r + 1) * mo ∧ -(r + 1) * mo ≤ 0 := by rw [Int.neg_mul]; omega
  obtain ⟨hb2, hb3⟩ := hb2
  have hc : ((e == 0) = false ∧ (e != 0) = true ∧ b = true) ∨ (e = 0 ∧ (t != st) = b) := by
    by_cases h0 : e = 0
    · refine .inr ⟨h0, ?_⟩
      rw [← hr]
      by_cases h1 : t = st <;> simp [h0, h1]
    · exact .inl ⟨by simp [h0], by simp [h0], by rw [← hr]; simp [h0]⟩
  clear H1 H2 m0 m1 hr
  rcases hc with ⟨h0, h1, rfl⟩ | ⟨rfl, rfl⟩
  all_goals
    go_enter Tryd.func32, Tryd.ntmps32
    go_wp2_with (first
      | (go_at_call 31; ((with_reducible refine (J1.out _).mono ?_); rintro x w1 ⟨rfl, b⟩; obtain ⟨q0, q1, q2, q3, q4, q5, q6, q7, q8⟩ := row9S b; have B1 := Lib.hid (btS (belE_c _ _) b); clear b))
      | (go_at_call 53; ((with_reducible refine (J2.out _).mono ?_); rintro x w2 ⟨rfl, rfl⟩)))
    go_ret
    exact ⟨ret_boolD (by simp), B1.out⟩

section
variable (st en mo : Int) (bk la : Bool) (sb ro we : Int) (A : Option Addr) (c : Nat) (hs : List Int) (y m d : Int)
/-- Is there a stub? -/
def stubB : Bool := decide (stpE mo bk la y m d (regN st en mo bk la y m d + 1) ≠ 0) || decide (stpV mo bk la y m d (regN st en mo bk la y m d + 1) ≠ bsd en st bk)
theorem rstub_any (m0 : 1 ≤ mo) (m1 : mo ≤ 1200) (h : IsDate y m d (bsd st en bk)) (hb : bsd st en bk ≤ 99999) (w : World) :
    Calls Tryd.prog 32 #[.agg #[.int .i64 st, .int .i64 en, .int .i64 mo, .bool bk, .bool la, .int .u8 sb, .int .u8 ro, .int .u8 we, .slice A hs.length c]] w fun e w' => e = .returned (.bool (stubB st en mo bk la y m d)) ∧ Below w.heap.size w w' := by
  have hR := regN_le st en mo bk la y m d
  have H := fun W => rregular_any st en mo bk la sb ro we A c hs y m d m0 m1 h hb W
  have e1 : ((regN st en mo bk la y m d + 1 : Nat) : Int) = (regN st en mo bk la y m d : Int) + 1 := by omega
  unfold stubB stpE stpV mth
  rw [e1]
  generalize regN st en mo bk la y m d = R at *
  cases bk
  · exact rstub_0 st en mo la sb ro we A c hs R _ _ _ (by omega) (by omega) m0 m1 w H (fun W => refAddM la y m d st _ h hb W) rfl
  · exact rstub_1 st en mo la sb ro we A c hs R _ _ _ (by omega) (by omega) m0 m1 w H (fun W => refAddM la y m d en _ h hb W) rfl
end
end Go.Proofs.YtfheeipggedaiaaDoor

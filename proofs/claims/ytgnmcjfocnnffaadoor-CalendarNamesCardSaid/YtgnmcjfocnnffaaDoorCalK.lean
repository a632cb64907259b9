/- Layer 4: the reference's walks: Count, Business, and comparisons of calendars. -/
import Derived.Test.YtgnmcjfocnnffaaDoorCalJ
namespace Go.Proofs.YtgnmcjfocnnffaaDoor
open Go Go.RowKit

def grtB (hs : List Int) : Bool := decide (1100 < hs.length) || (decide (100 < hs.length) && decide (hs.length ≤ 1000))
set_option maxRecDepth 100000 in
set_option maxHeartbeats 1600000 in
theorem great_any (we : Int) (A : Option Addr) (c : Nat) (hs : List Int) (b : Bool) (w : World) (h : CalIn w we A c hs) (hb : grtB hs = b) :
    Calls Tryd.prog 19 #[.agg #[.int .u8 we, .slice A hs.length c]] w fun x w' => x = .returned (.bool b) ∧ Below w.heap.size w w' := by
  have C1 := Lib.hid (CalAt.new (we := we) (c := c) h.rd)
  have B1 := Lib.hid (bel1 w (.cells #[.int .u8 we, .slice A hs.length c] 24))
  have c0 := C1.out.c0
  have c1 := C1.out.c1
  have hl := h.len
  unfold grtB at hb
  obtain ⟨n, hn⟩ : ∃ n, hs.length = n := ⟨_, rfl⟩
  rw [hn] at hb hl c1 C1 B1 ⊢
  rw [hn] at c0
  clear h hn
  have h3 : n ≤ 100 ∨ (100 < n ∧ n ≤ 1000) ∨ (1000 < n ∧ n ≤ 1100) ∨ 1100 < n := by omega
  rcases h3 with h3 | ⟨h3, h4⟩ | ⟨h3, h4⟩ | h3
  · have hb' : Hid (false = b) := by show _ = _; rw [← hb, decide_eq_false (by omega), decide_eq_false (by omega)]; rfl
    have h5 : (n : Int) ≤ 100 := by omega
    clear hb h3 hl
    go_enter Tryd.func19, Tryd.ntmps19
    go_wp2
    all_goals
      go_ret
      refine ⟨ret_bool ?_, B1.out⟩
      first | exact hb'.out | (rw [← hb'.out]; simp; omega)
  · have hb' : Hid (true = b) := by show _ = _; rw [← hb, decide_eq_false (by omega), decide_eq_true (by omega), decide_eq_true (by omega)]; rfl
    have h5 : (100 : Int) < n := by omega
    have h6 : (n : Int) ≤ 1000 := by omega
    clear hb h3 h4 hl
    go_enter Tryd.func19, Tryd.ntmps19
    go_wp2
    all_goals
      go_ret
      refine ⟨ret_bool ?_, B1.out⟩
      first | exact hb'.out | (rw [← hb'.out]; simp; omega)
  · have hb' : Hid (false = b) := by show _ = _; rw [← hb, decide_eq_false (by omega), decide_eq_true (by omega), decide_eq_false (by omega)]; rfl
    have h5 : (1000 : Int) < n := by omega
    have h6 : (n : Int) ≤ 1100 := by omega
    have h7 : (100 : Int) < n := by omega
    clear hb h3 h4 hl
    go_enter Tryd.func19, Tryd.ntmps19
    go_wp2
    all_goals
      go_ret
      refine ⟨ret_bool ?_, B1.out⟩
      first | exact hb'.out | (rw [← hb'.out]; simp; omega)
  · have hb' : Hid (true = b) := by show _ = _; rw [← hb, decide_eq_true (by omega)]; rfl
    have h5 : (1100 : Int) < n := by omega
    clear hb h3 hl
    go_enter Tryd.func19, Tryd.ntmps19
    go_wp2
    all_goals
      go_ret
      refine ⟨ret_bool ?_, B1.out⟩
      first | exact hb'.out | (rw [← hb'.out]; simp; omega)

set_option maxRecDepth 100000 in
set_option maxHeartbeats 1600000 in
theorem refCount_up (we : Int) (A : Option Addr) (c : Nat) (hs : List Int) (a b v : Int) (w : World) (h : CalIn w we A c hs) (a0 : 0 ≤ a) (a1 : a ≤ 99999) (b0 : 0 ≤ b) (b1 : b ≤ 99999) (hab : a ≤ b) (hval : valB we hs = true) (hv : cntV (bizB we hs) a b = v) :
    Calls Tryd.prog 22 #[.agg #[.int .u8 we, .slice A hs.length c], .int .i64 a, .int .i64 b] w fun x w' => x = .returned (.tuple #[.int .i64 v, .int .i64 0]) ∧ Below w.heap.size w w' := by
  have C1 := Lib.hid (CalAt.new (we := we) (c := c) h.rd)
  have B1 := Lib.hid (bel1 w (.cells #[.int .u8 we, .slice A hs.length c] 24))
  have c0 := C1.out.c0
  have c1 := C1.out.c1
  have HV : Hid (∀ w', Below w.heap.size w w' → Calls _ _ _ _ _) := fun w' hw => valid_any we A c hs true w' (h.below hw) hval
  have HDa := Lib.hid (fun w => dayR_any a true ((dayB_iff a).2 ⟨a0, a1⟩) w)
  have HDb := Lib.hid (fun w => dayR_any b true ((dayB_iff b).2 ⟨b0, b1⟩) w)
  have HO : Hid (∀ d q, 0 ≤ d → d ≤ 99999 → bizB we hs d = q → ∀ w', Below w.heap.size w w' → Calls Tryd.prog 37 #[.agg #[.int .u8 we, .slice A hs.length c], .int .i64 d] w' fun x w2 => x = .returned (.bool q) ∧ Below w'.heap.size w' w2) :=
    fun d q d0 d1 hq w' hw => open_any we A c hs d q w' (h.below hw) hval d0 d1 hq
  have HX : Hid (cumI (bizB we hs) b - cumI (bizB we hs) a = v) := hv
  have HM : Hid (∀ x y, 0 ≤ x → x ≤ y → 0 ≤ cumI (bizB we hs) y - cumI (bizB we hs) x ∧ cumI (bizB we hs) y - cumI (bizB we hs) x ≤ y - x) := fun x y hx hy => by have := cumI_mono (bizB we hs) hx hy; omega
  have HS : Hid (∀ x, 0 ≤ x → cumI (bizB we hs) (x + 1) = cumI (bizB we hs) x + if bizB we hs x then 1 else 0) := fun x hx => cumI_succ _ x hx
  clear h hval hv
  generalize bizB we hs = p at *
  go_enter Tryd.func22, Tryd.ntmps22
  go_wp2_with (first
    | (go_at_call 32; ((with_reducible refine (HV.out _ B1.out).mono ?_); rintro x w2 ⟨rfl, hb⟩; have B2 := Lib.hid (bt B1.out hb); have C2 := Lib.hid (C1.out.below hb); clear hb))
    | (go_at_call 33; ((with_reducible refine (HDa.out _).mono ?_); rintro x w' ⟨rfl, rfl⟩))
    | (go_at_call 33; ((with_reducible refine (HDb.out _).mono ?_); rintro x w' ⟨rfl, rfl⟩)))
  clear c0 c1 HDa HDb HV

  go_loopw [8, 9] (fun n d wr => ∃ x c' : Int, n = .int .i64 c' ∧ d = .int .i64 x ∧ a ≤ x ∧ x ≤ b ∧ Hid (c' = cumI p x - cumI p a) ∧ Hid (Below w.heap.size w wr) ∧ Hid (CalAt wr w.heap.size we A c hs)) (fun _ d _ => (b - intOf d).toNat)
  case atStart => exact ⟨a, 0, rfl, rfl, Int.le_refl _, by omega, by show _ = _; omega, B2, C2⟩
  case round =>
    obtain ⟨x, c', rfl, rfl, hx0, hx1, hc, HBr, HCr⟩ := hrel
    by_cases hlt : x < b
    · have k0 := HCr.out.c0
      have k1 := HCr.out.c1
      have hm := HM.out a x (by omega) hx0
      have hs := HS.out x (by omega)
      have hc0 := hc.out
      have q0 : -100000 ≤ c' := by omega
      have q1 : c' ≤ 100000 := by omega
      cases hp : p x with
      | false =>
        have HO' := Lib.hid (HO.out x false (by omega) (by omega) hp)
        have HC' : Hid (c' = cumI p (x + 1) - cumI p a) := by show _ = _; rw [hp] at hs; simp at hs; omega
        clear hm hs hc0 hp
        go_wp2_with (go_at_call 37; ((with_reducible refine (HO'.out _ HBr.out).mono ?_); rintro x w3 ⟨rfl, hb⟩; have B3 := Lib.hid (bt HBr.out hb); have C3 := Lib.hid (HCr.out.below hb); clear hb))
        go_roundw
        case rel => exact ⟨x + 1, c', rfl, rfl, by omega, by omega, HC', B3, C3⟩
        case measure => simp [intOf]; omega
      | true =>
        have HO' := Lib.hid (HO.out x true (by omega) (by omega) hp)
        have HC' : Hid (c' + 1 = cumI p (x + 1) - cumI p a) := by show _ = _; rw [hp] at hs; simp at hs; omega
        clear hm hs hc0 hp
        go_wp2_with (go_at_call 37; ((with_reducible refine (HO'.out _ HBr.out).mono ?_); rintro x w3 ⟨rfl, hb⟩; have B3 := Lib.hid (bt HBr.out hb); have C3 := Lib.hid (HCr.out.below hb); clear hb))
        go_roundw
        case rel => exact ⟨x + 1, c' + 1, rfl, rfl, by omega, by omega, HC', B3, C3⟩
        case measure => simp [intOf]; omega
    · obtain rfl : x = b := by omega

      have hnb : (x : Int) ≤ x := Int.le_refl _
      go_wp2
      go_loopw [8, 10] (fun n d wr => n = .int .i64 c' ∧ d = .int .i64 x ∧ Hid (Below w.heap.size w wr)) (fun _ _ _ => 0)
      case atStart => exact ⟨rfl, rfl, HBr⟩
      case round =>
        obtain ⟨rfl, rfl, HBr⟩ := hrel
        have HF : Hid (c' = v) := by show _ = _; rw [← HX.out]; exact hc.out
        clear hc
        go_wp2
        go_ret2
        exact ⟨by rw [HF.out]; rfl, HBr.out⟩

set_option maxRecDepth 100000 in
set_option maxHeartbeats 1600000 in
theorem refCount_down (we : Int) (A : Option Addr) (c : Nat) (hs : List Int) (a b v : Int) (w : World) (h : CalIn w we A c hs) (a0 : 0 ≤ a) (a1 : a ≤ 99999) (b0 : 0 ≤ b) (b1 : b ≤ 99999) (hab : b < a) (hval : valB we hs = true) (hv : cntV (bizB we hs) a b = v) :
    Calls Tryd.prog 22 #[.agg #[.int .u8 we, .slice A hs.length c], .int .i64 a, .int .i64 b] w fun x w' => x = .returned (.tuple #[.int .i64 v, .int .i64 0]) ∧ Below w.heap.size w w' := by
  have C1 := Lib.hid (CalAt.new (we := we) (c := c) h.rd)
  have B1 := Lib.hid (bel1 w (.cells #[.int .u8 we, .slice A hs.length c] 24))
  have c0 := C1.out.c0
  have c1 := C1.out.c1
  have HV : Hid (∀ w', Below w.heap.size w w' → Calls _ _ _ _ _) := fun w' hw => valid_any we A c hs true w' (h.below hw) hval
  have HDa := Lib.hid (fun w => dayR_any a true ((dayB_iff a).2 ⟨a0, a1⟩) w)
  have HDb := Lib.hid (fun w => dayR_any b true ((dayB_iff b).2 ⟨b0, b1⟩) w)
  have HO : Hid (∀ d q, 0 ≤ d → d ≤ 99999 → bizB we hs d = q → ∀ w', Below w.heap.size w w' → Calls Tryd.prog 37 #[.agg #[.int .u8 we, .slice A hs.length c], .int .i64 d] w' fun x w2 => x = .returned (.bool q) ∧ Below w'.heap.size w' w2) :=
    fun d q d0 d1 hq w' hw => open_any we A c hs d q w' (h.below hw) hval d0 d1 hq
  have HX : Hid (cumI (bizB we hs) b - cumI (bizB we hs) a = v) := hv
  have HM : Hid (∀ x y, 0 ≤ x → x ≤ y → 0 ≤ cumI (bizB we hs) y - cumI (bizB we hs) x ∧ cumI (bizB we hs) y - cumI (bizB we hs) x ≤ y - x) := fun x y hx hy => by have := cumI_mono (bizB we hs) hx hy; omega
  have HS : Hid (∀ x, 0 ≤ x → cumI (bizB we hs) (x + 1) = cumI (bizB we hs) x + if bizB we hs x then 1 else 0) := fun x hx => cumI_succ _ x hx
  clear h hval hv
  generalize bizB we hs = p at *
  go_enter Tryd.func22, Tryd.ntmps22
  go_wp2_with (first
    | (go_at_call 32; ((with_reducible refine (HV.out _ B1.out).mono ?_); rintro x w2 ⟨rfl, hb⟩; have B2 := Lib.hid (bt B1.out hb); have C2 := Lib.hid (C1.out.below hb); clear hb))
    | (go_at_call 33; ((with_reducible refine (HDa.out _).mono ?_); rintro x w' ⟨rfl, rfl⟩))
    | (go_at_call 33; ((with_reducible refine (HDb.out _).mono ?_); rintro x w' ⟨rfl, rfl⟩)))
  clear c0 c1 HDa HDb HV

  go_loopw [8, 9] (fun n d wr => n = .int .i64 0 ∧ d = .int .i64 a ∧ Hid (Below w.heap.size w wr) ∧ Hid (CalAt wr w.heap.size we A c hs)) (fun _ _ _ => 0)
  case atStart => exact ⟨rfl, rfl, B2, C2⟩
  case round =>
    obtain ⟨rfl, rfl, HBr, HCr⟩ := hrel
    have hba : b ≤ a := by omega
    go_wp2
    go_loopw [8, 10] (fun n d wr => ∃ x c' : Int, n = .int .i64 c' ∧ d = .int .i64 x ∧ b ≤ x ∧ x ≤ a ∧ Hid (c' = -(cumI p x - cumI p b)) ∧ Hid (Below w.heap.size w wr) ∧ Hid (CalAt wr w.heap.size we A c hs)) (fun _ d _ => (a - intOf d).toNat)
    case atStart => exact ⟨b, 0, rfl, rfl, Int.le_refl _, by omega, by show _ = _; omega, HBr, HCr⟩
    case round =>
      obtain ⟨x, c', rfl, rfl, hx0, hx1, hc, HBr, HCr⟩ := hrel
      by_cases hlt : x < a
      · have k0 := HCr.out.c0
        have k1 := HCr.out.c1
        have hm := HM.out b x (by omega) hx0
        have hs := HS.out x (by omega)
        have hc0 := hc.out
        have q0 : -100000 ≤ c' := by omega
        have q1 : c' ≤ 100000 := by omega
        cases hp : p x with
        | false =>
          have HO' := Lib.hid (HO.out x false (by omega) (by omega) hp)
          have HC' : Hid (c' = -(cumI p (x + 1) - cumI p b)) := by show _ = _; rw [hp] at hs; simp at hs; omega
          clear hm hs hc0 hp
          go_wp2_with (go_at_call 37; ((with_reducible refine (HO'.out _ HBr.out).mono ?_); rintro x w3 ⟨rfl, hb⟩; have B3 := Lib.hid (bt HBr.out hb); have C3 := Lib.hid (HCr.out.below hb); clear hb))
          go_roundw
          case rel => exact ⟨x + 1, c', rfl, rfl, by omega, by omega, HC', B3, C3⟩
          case measure => simp [intOf]; omega
        | true =>
          have HO' := Lib.hid (HO.out x true (by omega) (by omega) hp)
          have HC' : Hid (c' - 1 = -(cumI p (x + 1) - cumI p b)) := by show _ = _; rw [hp] at hs; simp at hs; omega
          clear hm hs hc0 hp
          go_wp2_with (go_at_call 37; ((with_reducible refine (HO'.out _ HBr.out).mono ?_); rintro x w3 ⟨rfl, hb⟩; have B3 := Lib.hid (bt HBr.out hb); have C3 := Lib.hid (HCr.out.below hb); clear hb))
          go_roundw
          case rel => exact ⟨x + 1, c' - 1, rfl, rfl, by omega, by omega, HC', B3, C3⟩
          case measure => simp [intOf]; omega
      · obtain rfl : x = a := by omega
        have HF : Hid (c' = v) := by show _ = _; rw [← HX.out]; have := hc.out; omega
        clear hc
        go_wp2
        go_ret2
        exact ⟨by rw [HF.out]; rfl, HBr.out⟩

set_option maxRecDepth 100000 in
set_option maxHeartbeats 1600000 in
theorem rc_bad (we : Int) (A : Option Addr) (c : Nat) (hs : List Int) (a b : Int) (w : World) (h : CalIn w we A c hs) (hval : valB we hs = false) :
    Calls Tryd.prog 22 #[.agg #[.int .u8 we, .slice A hs.length c], .int .i64 a, .int .i64 b] w fun x w' => x = .returned (.tuple #[.int .i64 0, .int .i64 8]) ∧ Below w.heap.size w w' := by
  have C1 := Lib.hid (CalAt.new (we := we) (c := c) h.rd)
  have B1 := Lib.hid (bel1 w (.cells #[.int .u8 we, .slice A hs.length c] 24))
  have c0 := C1.out.c0
  have c1 := C1.out.c1
  have HV : Hid (∀ w', Below w.heap.size w w' → Calls _ _ _ _ _) := fun w' hw => valid_any we A c hs _ w' (h.below hw) hval
  clear h hval
  go_enter Tryd.func22, Tryd.ntmps22
  go_wp2_with (first
    | (go_at_call 32; ((with_reducible refine (HV.out _ B1.out).mono ?_); rintro x w2 ⟨rfl, hb⟩; have B2 := Lib.hid (bt B1.out hb); clear hb))
    | fail)
  go_ret2
  exact ⟨rfl, B2.out⟩

set_option maxRecDepth 100000 in
set_option maxHeartbeats 1600000 in
theorem rc_a (we : Int) (A : Option Addr) (c : Nat) (hs : List Int) (a b : Int) (w : World) (h : CalIn w we A c hs) (hval : valB we hs = true) (ha : dayB a = false) :
    Calls Tryd.prog 22 #[.agg #[.int .u8 we, .slice A hs.length c], .int .i64 a, .int .i64 b] w fun x w' => x = .returned (.tuple #[.int .i64 0, .int .i64 2]) ∧ Below w.heap.size w w' := by
  have C1 := Lib.hid (CalAt.new (we := we) (c := c) h.rd)
  have B1 := Lib.hid (bel1 w (.cells #[.int .u8 we, .slice A hs.length c] 24))
  have c0 := C1.out.c0
  have c1 := C1.out.c1
  have HV : Hid (∀ w', Below w.heap.size w w' → Calls _ _ _ _ _) := fun w' hw => valid_any we A c hs _ w' (h.below hw) hval
  have HDa := Lib.hid (dayR_any a false ha)
  clear h hval
  go_enter Tryd.func22, Tryd.ntmps22
  go_wp2_with (first
    | (go_at_call 32; ((with_reducible refine (HV.out _ B1.out).mono ?_); rintro x w2 ⟨rfl, hb⟩; have B2 := Lib.hid (bt B1.out hb); clear hb))
    | (go_at_call 33; ((with_reducible refine (HDa.out _).mono ?_); rintro x w' ⟨rfl, rfl⟩)))
  go_ret2
  exact ⟨rfl, B2.out⟩

set_option maxRecDepth 100000 in
set_option maxHeartbeats 1600000 in
theorem rc_b (we : Int) (A : Option Addr) (c : Nat) (hs : List Int) (a b : Int) (w : World) (h : CalIn w we A c hs) (hval : valB we hs = true) (ha : dayB a = true) (hb : dayB b = false) :
    Calls Tryd.prog 22 #[.agg #[.int .u8 we, .slice A hs.length c], .int .i64 a, .int .i64 b] w fun x w' => x = .returned (.tuple #[.int .i64 0, .int .i64 2]) ∧ Below w.heap.size w w' := by
  have C1 := Lib.hid (CalAt.new (we := we) (c := c) h.rd)
  have B1 := Lib.hid (bel1 w (.cells #[.int .u8 we, .slice A hs.length c] 24))
  have c0 := C1.out.c0
  have c1 := C1.out.c1
  have HV : Hid (∀ w', Below w.heap.size w w' → Calls _ _ _ _ _) := fun w' hw => valid_any we A c hs _ w' (h.below hw) hval
  have HDa := Lib.hid (dayR_any a true ha)
  have HDb := Lib.hid (dayR_any b false hb)
  clear h hval
  go_enter Tryd.func22, Tryd.ntmps22
  go_wp2_with (first
    | (go_at_call 32; ((with_reducible refine (HV.out _ B1.out).mono ?_); rintro x w2 ⟨rfl, hb⟩; have B2 := Lib.hid (bt B1.out hb); clear hb))
    | (go_at_call 33; ((with_reducible refine (HDa.out _).mono ?_); rintro x w' ⟨rfl, rfl⟩))
    | (go_at_call 33; ((with_reducible refine (HDb.out _).mono ?_); rintro x w' ⟨rfl, rfl⟩)))
  go_ret2
  exact ⟨rfl, B2.out⟩


theorem refCount_any (we : Int) (A : Option Addr) (c : Nat) (hs : List Int) (a b v e : Int) (w : World) (h : CalIn w we A c hs) (h1 : coV we hs a b = v) (h2 : chkE we hs [a, b] = e) :
    Calls Tryd.prog 22 #[.agg #[.int .u8 we, .slice A hs.length c], .int .i64 a, .int .i64 b] w fun x w' => x = .returned (.tuple #[.int .i64 v, .int .i64 e]) ∧ Below w.heap.size w w' := by
  unfold coV at h1
  rw [h2] at h1
  cases hval : valB we hs with
  | false =>
    rw [chk_bad _ hval] at h2
    subst h2
    rw [if_neg (by decide)] at h1
    subst h1
    exact rc_bad we A c hs a b w h hval
  | true =>
    have e2 : chkE we hs [a, b] = if dayB a && dayB b then 0 else 2 := by unfold chkE; rw [hval]; simp
    rw [e2] at h2
    cases ha : dayB a with
    | false =>
      rw [ha] at h2
      have h2' : 2 = e := h2
      subst h2'
      rw [if_neg (by decide)] at h1
      subst h1
      exact rc_a we A c hs a b w h hval ha
    | true =>
      cases hb : dayB b with
      | false =>
        rw [ha, hb] at h2
        have h2' : 2 = e := h2
        subst h2'
        rw [if_neg (by decide)] at h1
        subst h1
        exact rc_b we A c hs a b w h hval ha hb
      | true =>
        rw [ha, hb] at h2
        have h2' : 0 = e := h2
        subst h2'
        rw [if_pos rfl] at h1
        obtain ⟨a0, a1⟩ := (dayB_iff a).1 ha
        obtain ⟨b0, b1⟩ := (dayB_iff b).1 hb
        by_cases hab : a ≤ b
        · exact refCount_up we A c hs a b v w h a0 a1 b0 b1 hab hval h1
        · exact refCount_down we A c hs a b v w h a0 a1 b0 b1 (by omega) hval h1

def samB (we1 we2 : Int) (hs1 hs2 : List Int) : Bool := decide (we1 = we2) && decide (hs1 = hs2)
theorem samB_len {we1 we2 : Int} {hs1 hs2 : List Int} (h : samB we1 we2 hs1 hs2 = true) : we1 = we2 ∧ hs1 = hs2 := by simpa [samB] using h
/-- Two lists of one length, up to a place. -/
theorem ext_to {xs ys : List Int} (hl : xs.length = ys.length) (h : ∀ j, j < xs.length → xs.getD j 0 = ys.getD j 0) : xs = ys := by
  refine List.ext_getElem hl (fun j h1 h2 => ?_)
  have := h j h1
  rw [List.getD_eq_getElem?_getD, List.getD_eq_getElem?_getD, List.getElem?_eq_getElem h1, List.getElem?_eq_getElem h2] at this
  exact this
set_option maxRecDepth 100000 in
set_option maxHeartbeats 1600000 in
theorem same_any (we1 : Int) (A1 : Option Addr) (c1 : Nat) (hs1 : List Int) (we2 : Int) (A2 : Option Addr) (c2 : Nat) (hs2 : List Int) (b : Bool) (w : World) (h1 : CalIn w we1 A1 c1 hs1) (h2 : CalIn w we2 A2 c2 hs2) (hb : samB we1 we2 hs1 hs2 = b) :
    Calls Tryd.prog 18 #[.agg #[.int .u8 we1, .slice A1 hs1.length c1], .agg #[.int .u8 we2, .slice A2 hs2.length c2]] w fun x w' => x = .returned (.bool b) ∧ Below w.heap.size w w' := by
  obtain ⟨W2, hW2⟩ : ∃ W2, (w.alloc (.cells #[.int .u8 we1, .slice A1 hs1.length c1] 24)).alloc (.cells #[.int .u8 we2, .slice A2 hs2.length c2] 24) = W2 := ⟨_, rfl⟩
  have hb2 : Below w.heap.size w W2 := by rw [← hW2]; exact bel2 _ _ _
  have hC1 : CalAt W2 w.heap.size we1 A1 c1 hs1 := by rw [← hW2]; exact (CalAt.new h1.rd).below (bel1 _ _)
  have hC2 : CalAt W2 (w.heap.size + 1) we2 A2 c2 hs2 := by
    have := CalAt.new (we := we2) (c := c2) (h2.rd.below (bel1 w (.cells #[.int .u8 we1, .slice A1 hs1.length c1] 24)))
    rw [World.size_alloc] at this
    rw [← hW2]; exact this
  have HB2 := Lib.hid hb2
  have HC1 := Lib.hid hC1
  have HC2 := Lib.hid hC2
  have hl1 := h1.len
  have hl2 := h2.len
  have k0 := hC1.c0
  have k1 := hC1.c1
  have k2 := hC2.c0
  have k3 := hC2.c1
  clear hC1 hC2 hb2 h1 h2
  by_cases hw : we1 = we2
  · subst hw
    by_cases hl : hs1.length = hs2.length
    · have HS : Hid (decide (hs1 = hs2) = b) := by show _ = _; rw [← hb]; unfold samB; simp
      have HL := Lib.hid hl
      clear hb
      rw [← hl] at k3 hW2 ⊢
      clear hl hl2
      go_enter Tryd.func18, Tryd.ntmps18
      go_wp2
      go_loopw [5] (fun i wr => ∃ k : Nat, k ≤ hs1.length ∧ i = .int .i64 k ∧ Hid (∀ j, j < k → hs1.getD j 0 = hs2.getD j 0) ∧ Hid (Below w.heap.size w wr) ∧ Hid (CalAt wr w.heap.size we1 A1 c1 hs1) ∧ Hid (CalAt wr (w.heap.size + 1) we1 A2 c2 hs2)) (fun i _ => hs1.length - (intOf i).toNat)
      case atStart => exact ⟨0, by omega, rfl, fun j hj => absurd hj (by omega), HB2, HC1, HC2⟩
      case round =>
        clear k0 k1 k2 k3 hW2
        obtain ⟨k, hk, rfl, heq, HBr, HCr1, HCr2⟩ := hrel
        have k0 := HCr1.out.c0
        have k1 := HCr1.out.c1
        have k2 := HCr2.out.c0
        have k3 := HCr2.out.c1
        have HL' := HL.out
        rw [← HL'] at k3
        by_cases hlt : k < hs1.length
        · obtain ⟨b1, o1, rfl, hz1, hcell1⟩ := HCr1.out.hs.get hlt
          obtain ⟨b2, o2, rfl, hz2, hcell2⟩ := HCr2.out.hs.get (j := k) (by omega)
          have q1 := hcell1 k hlt
          have q2 := hcell2 k (by omega)
          have HN : Hid (hs1.getD k 0 = hs2.getD k 0 → ∀ j, j < k + 1 → hs1.getD j 0 = hs2.getD j 0) := fun he j hj => by
            by_cases e : j = k
            · subst e; exact he
            · exact heq.out j (by omega)
          have HF : Hid (hs1.getD k 0 ≠ hs2.getD k 0 → false = b) := fun hne => by
            rw [← HS.out, decide_eq_false (fun e => hne (by rw [e]))]
          have i1 : (k : Int) < (hs1.length : Int) := by omega
          clear hcell1 hcell2 HL'
          generalize hs1.getD k 0 = x at *
          generalize hs2.getD k 0 = y at *
          by_cases hxy : x = y
          · subst hxy
            have HN' := Lib.hid (HN.out rfl)
            go_wp2
            go_quiet (fail)
            have HBN := Lib.hid (below_dn HBr.out nq)
            have HCN := Lib.hid (HCr1.out.dn nq)
            have HCM := Lib.hid (HCr2.out.dn nq)
            go_wp2
            go_roundw
            case rel => exact ⟨k + 1, by omega, by go_num, HN', HBN, HCN, HCM⟩
            case measure => simp [intOf]; omega
          · have HF' := Lib.hid (HF.out hxy)
            have hne : (x != y) = true := by rw [bne_iff_ne]; exact hxy
            have hne2 : (x == y) = false := by rw [beq_eq_false_iff_ne]; exact hxy
            go_wp2
            go_quiet (fail)
            go_wp2
            go_ret
            exact ⟨ret_bool HF'.out, below_dn HBr.out _⟩
        · obtain rfl : k = hs1.length := by omega
          have HF : Hid (true = b) := by show _ = _; rw [← HS.out, decide_eq_true (ext_to HL' heq.out)]
          go_wp2
          go_ret
          exact ⟨ret_bool HF.out, HBr.out⟩
    · have HS : Hid (false = b) := by show _ = _; rw [← hb]; unfold samB; rw [decide_eq_false (p := hs1 = hs2) (fun e => hl (by rw [e]))]; simp
      have hne : ((hs1.length : Int) != (hs2.length : Int)) = true := by rw [bne_iff_ne]; omega
      have hne2 : ((hs1.length : Int) == (hs2.length : Int)) = false := by rw [beq_eq_false_iff_ne]; omega
      clear hb hl
      go_enter Tryd.func18, Tryd.ntmps18
      go_wp2
      go_ret
      exact ⟨ret_bool HS.out, HB2.out⟩
  · have HS : Hid (false = b) := by show _ = _; rw [← hb]; unfold samB; rw [decide_eq_false hw]; rfl
    have hne : (we1 != we2) = true := by rw [bne_iff_ne]; exact hw
    have hne2 : (we1 == we2) = false := by rw [beq_eq_false_iff_ne]; exact hw
    clear hb
    go_enter Tryd.func18, Tryd.ntmps18
    go_wp2
    go_ret
    exact ⟨ret_bool HS.out, HB2.out⟩
end Go.Proofs.YtgnmcjfocnnffaaDoor

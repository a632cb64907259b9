/- Layer 4: the program's walks: the exported functions. -/
import Derived.Test.YtgnmcjfocnnffaaDoorCalF
namespace Go.Proofs.YtgnmcjfocnnffaaDoor
open Go Go.RowKit

theorem bel1 (w : World) (o : Obj) : Below w.heap.size w (w.alloc o) := (Below.refl _ w).alloc (Nat.le_refl _) _
theorem bel2 (w : World) (o o' : Obj) : Below w.heap.size w ((w.alloc o).alloc o') := (bel1 w o).alloc (by simp) _
theorem bt {a b c : World} (h : Below a.heap.size a b) (k : Below b.heap.size b c) : Below a.heap.size a c := h.trans (k.mono h.size)
theorem cell_at_new (w : World) (xs : Array Value) (t : TypeId) (j : Nat) (v : Value) (h : xs[j]? = some v) : (w.alloc (.cells xs t)).cell? ⟨w.heap.size, j, none⟩ = some v := by
  unfold World.cell?
  rw [heap_alloc_new]
  exact h
theorem hs_new (w : World) (xs : List Int) (t : TypeId) : HsA (w.alloc (.cells (xs.map (Value.int .i64)).toArray t)) (some ⟨w.heap.size, 0, none⟩) xs := by
  refine .inr ⟨w.heap.size, 0, rfl, by simp, fun j hj => ?_⟩
  rw [Nat.zero_add]
  refine cell_at_new w _ t j _ ?_
  simp [List.getD_eq_getElem?_getD, List.getElem?_eq_getElem hj]

section
variable (we : Int) (A : Option Addr) (c : Nat) (hs : List Int)
/-- A calendar, boxed. -/
def calO : Obj := .cells #[.int .u8 we, .slice A hs.length c] 24
/-- The world when checked is called at one day, at two days. -/
def cW1 (d : Int) (w : World) : World := (w.alloc (.cells #[.int .u8 we, .slice A hs.length c] 24)).alloc (.cells #[.int .i64 d] 3)
def cW2 (d e : Int) (w : World) : World := (w.alloc (.cells #[.int .u8 we, .slice A hs.length c] 24)).alloc (.cells #[.int .i64 d, .int .i64 e] 3)
theorem checked1_any (d v : Int) (w : World) (h : CalIn w we A c hs) (hv : chkE we hs [d] = v) :
    Calls Tryd.prog 24 #[.agg #[.int .u8 we, .slice A hs.length c], .slice (some ⟨w.heap.size + 1, 0, none⟩) 1 1] ((w.alloc (.cells #[.int .u8 we, .slice A hs.length c] 24)).alloc (.cells #[.int .i64 d] 3)) fun e w' => e = .returned (.int .i64 v) ∧ Below w.heap.size w w' ∧ CalAt w' w.heap.size we A c hs := by
  have h1 := hs_new (w.alloc (.cells #[.int .u8 we, .slice A hs.length c] 24)) [d] 3
  rw [World.size_alloc] at h1
  exact (checked_any we A c hs _ 1 [d] v _ (h.below (bel2 w _ _)) h1 (by simp) hv).mono fun e w' ⟨a, b⟩ => ⟨a, bt (bel2 w _ _) b, ((CalAt.new h.rd).below (bel1 _ _)).below b⟩
theorem checked2_any (d d2 v : Int) (w : World) (h : CalIn w we A c hs) (hv : chkE we hs [d, d2] = v) :
    Calls Tryd.prog 24 #[.agg #[.int .u8 we, .slice A hs.length c], .slice (some ⟨w.heap.size + 1, 0, none⟩) 2 2] ((w.alloc (.cells #[.int .u8 we, .slice A hs.length c] 24)).alloc (.cells #[.int .i64 d, .int .i64 d2] 3)) fun e w' => e = .returned (.int .i64 v) ∧ Below w.heap.size w w' ∧ CalAt w' w.heap.size we A c hs := by
  have h1 := hs_new (w.alloc (.cells #[.int .u8 we, .slice A hs.length c] 24)) [d, d2] 3
  rw [World.size_alloc] at h1
  exact (checked_any we A c hs _ 2 [d, d2] v _ (h.below (bel2 w _ _)) h1 (by simp) hv).mono fun e w' ⟨a, b⟩ => ⟨a, bt (bel2 w _ _) b, ((CalAt.new h.rd).below (bel1 _ _)).below b⟩
/-- The closure, once it is made. -/
theorem bizAt_new (w : World) (h : HsA w A hs) (w0 : 0 ≤ we) (w1 : we ≤ 255) (hv : valB we hs = true) : BizAt (w.alloc (.cells #[.int .u8 we, .slice A hs.length c] 24)) w.heap.size (bizB we hs) :=
  bizAt_of (CalAt.new h) w0 w1 hv
end
theorem chk_val {we : Int} {hs ds : List Int} (h : chkE we hs ds = 0) : valB we hs = true ∧ ∀ d ∈ ds, 0 ≤ d ∧ d ≤ 99999 := by
  unfold chkE at h
  split at h
  · split at h
    · next h1 h2 => exact ⟨h1, fun d hd => (dayB_iff d).1 (List.all_eq_true.1 h2 d hd)⟩
    · simp at h
  · simp at h

set_option maxRecDepth 100000 in
set_option maxHeartbeats 1600000 in
theorem business_any (we : Int) (A : Option Addr) (c : Nat) (hs : List Int) (d : Int) (b : Bool) (v : Int) (w : World) (h : CalIn w we A c hs) (hv : chkE we hs [d] = v) (hb : (v = 0 ∧ bizB we hs d = b) ∨ (v ≠ 0 ∧ b = false)) :
    Calls Tryd.prog 11 #[.agg #[.int .u8 we, .slice A hs.length c], .int .i64 d] w fun e w' => e = .returned (.tuple #[.bool b, .int .i64 v]) ∧ Below w.heap.size w w' := by
  have HK := Lib.hid (checked1_any we A c hs d v w h hv)
  have hC := CalAt.new (we := we) (c := c) h.rd
  have c0 := hC.c0
  have c1 := hC.c1
  clear hC
  rcases hb with ⟨rfl, hb⟩ | ⟨hv0, rfl⟩
  · obtain ⟨hval, hds⟩ := chk_val hv
    obtain ⟨d0, d1⟩ := hds d (by simp)
    have HZ : Hid (∀ w', HsA w' A hs → Calls Tryd.prog 40 #[.int .i64 d, .pointer (some ⟨w'.heap.size, 0, none⟩)] (w'.alloc (.cells #[.int .u8 we, .slice A hs.length c] 24)) fun e w2 => e = .returned (.bool b) ∧ Below w'.heap.size w' w2) :=
      fun w' hh => by
        have := (bizAt_new we A c hs w' hh h.w0 h.w1 hval).2 _ (Below.refl _ _) d d0 d1
        rw [hb] at this
        exact this.mono fun e w2 ⟨a, b⟩ => ⟨a, bt (bel1 w' _) b⟩
    have HB := Lib.hid (businessOf_any we A hs.length c)
    clear hv hb hds hval d0 d1 h
    go_enter Tryd.func11, Tryd.ntmps11
    go_wp2_with (first
      | (go_at_call 24; ((with_reducible refine HK.out.mono ?_); rintro e w1 ⟨rfl, hb, hC⟩; have B1 := Lib.hid hb; have HC := Lib.hid hC; have k0 := hC.c0; have k1 := hC.c1; clear hb hC))
      | (go_at_call 25; ((with_reducible refine (HB.out _).mono ?_); rintro e w2 ⟨rfl, rfl⟩))
      | (go_at_call 40; ((with_reducible refine (HZ.out _ HC.out.hs).mono ?_); rintro e w2 ⟨rfl, hb⟩; have B2 := Lib.hid (bt B1.out hb); clear hb)))
    go_ret2
    exact ⟨rfl, B2.out⟩
  · have hv1 : (v == 0) = false := by rw [beq_eq_false_iff_ne]; exact hv0
    have hv2 : (v != 0) = true := by rw [bne_iff_ne]; exact hv0
    clear hv h
    go_enter Tryd.func11, Tryd.ntmps11
    go_wp2_with (first
      | (go_at_call 24; ((with_reducible refine HK.out.mono ?_); rintro e w1 ⟨rfl, hb, hC⟩; have B1 := Lib.hid hb; clear hb hC)))
    go_ret2
    exact ⟨rfl, B1.out⟩

def rlV (S : Int → Bool) (we : Int) (hs : List Int) (day r : Int) : Int := if chkE we hs [day] = 0 then (if r ≤ 4 then nV (rolO S (bizB we hs) r day) else 0) else 0
def rlE (S : Int → Bool) (we : Int) (hs : List Int) (day r : Int) : Int := if chkE we hs [day] = 0 then (if r ≤ 4 then nE (rolO S (bizB we hs) r day) else 2) else chkE we hs [day]
set_option maxRecDepth 100000 in
set_option maxHeartbeats 1600000 in
theorem roll_any (we : Int) (A : Option Addr) (c : Nat) (hs : List Int) (S : Int → Bool) (day r v e : Int) (w : World) (h : CalIn w we A c hs) (r0 : 0 ≤ r) (hS : 0 ≤ day → SmIs day S) (hV : VarD w) (h1 : rlV S we hs day r = v) (h2 : rlE S we hs day r = e) :
    Calls Tryd.prog 12 #[.agg #[.int .u8 we, .slice A hs.length c], .int .i64 day, .int .u8 r] w fun x w' => x = .returned (.tuple #[.int .i64 v, .int .i64 e]) ∧ Below w.heap.size w w' := by
  obtain ⟨g, hg⟩ : ∃ g, chkE we hs [day] = g := ⟨_, rfl⟩
  have HK := Lib.hid (checked1_any we A c hs day g w h hg)
  have hC := CalAt.new (we := we) (c := c) h.rd
  have c0 := hC.c0
  have c1 := hC.c1
  unfold rlV at h1
  unfold rlE at h2
  rw [hg] at h1 h2
  clear hC
  by_cases hv0 : g = 0
  · subst hv0
    rw [if_pos rfl] at h1 h2
    obtain ⟨hval, hds⟩ := chk_val hg
    obtain ⟨d0, d1⟩ := hds day (by simp)
    by_cases hr : r ≤ 4
    · rw [if_pos hr] at h1 h2
      have HZ : Hid (∀ w', Below w.heap.size w w' → HsA w' A hs → Calls Tryd.prog 26 #[.func (.func 40) #[] #[.pointer (some ⟨w'.heap.size, 0, none⟩)], .int .i64 day, .int .u8 r] (w'.alloc (.cells #[.int .u8 we, .slice A hs.length c] 24)) fun x w2 => x = .returned (.tuple #[.int .i64 v, .int .i64 e]) ∧ Below w'.heap.size w' w2) :=
        fun w' hb hh => (rolled_any w'.heap.size (bizB we hs) S day r v e _ (bizAt_new we A c hs w' hh h.w0 h.w1 hval) (hS d0) d0 d1 r0 hr ((hV.below hb).below (bel1 _ _)) h1 h2).mono fun x w2 ⟨a, b⟩ => ⟨a, bt (bel1 w' _) b⟩
      have HB := Lib.hid (businessOf_any we A hs.length c)
      clear h1 h2 hg hds hval d0 d1 h hS hV
      go_enter Tryd.func12, Tryd.ntmps12
      go_wp2_with (first
        | (go_at_call 24; ((with_reducible refine HK.out.mono ?_); rintro e w1 ⟨rfl, hb, hC⟩; have B1 := Lib.hid hb; have HC := Lib.hid hC; have k0 := hC.c0; have k1 := hC.c1; clear hb hC))
        | (go_at_call 25; ((with_reducible refine (HB.out _).mono ?_); rintro e w2 ⟨rfl, rfl⟩))
        | (go_at_call 26; ((with_reducible refine (HZ.out _ B1.out HC.out.hs).mono ?_); rintro x w2 ⟨rfl, hb⟩; have B2 := Lib.hid (bt B1.out hb); clear hb)))
      go_ret2
      exact ⟨rfl, B2.out⟩
    · rw [if_neg hr] at h1 h2
      subst h1 h2
      have hr' : 4 < r := by omega
      clear hg hds hval d0 d1 h hS hV hr
      go_enter Tryd.func12, Tryd.ntmps12
      go_wp2_with (first
        | (go_at_call 24; ((with_reducible refine HK.out.mono ?_); rintro e w1 ⟨rfl, hb, hC⟩; have B1 := Lib.hid hb; have HC := Lib.hid hC; have k0 := hC.c0; have k1 := hC.c1; clear hb hC)))
      go_ret2
      exact ⟨rfl, B1.out⟩
  · rw [if_neg hv0] at h1 h2
    subst h1 h2
    have hv1 : (g == 0) = false := by rw [beq_eq_false_iff_ne]; exact hv0
    have hv2 : (g != 0) = true := by rw [bne_iff_ne]; exact hv0
    clear hv0
    go_enter Tryd.func12, Tryd.ntmps12
    go_wp2_with (first
      | (go_at_call 24; ((with_reducible refine HK.out.mono ?_); rintro e w1 ⟨rfl, hb, hC⟩; have B1 := Lib.hid hb; clear hb hC)))
    go_ret2
    exact ⟨rfl, B1.out⟩

def adO (p : Int → Bool) (day n : Int) : Option Int := if 0 < n then fwO p (day + 1) n else if n < 0 then bwO p (day - 1) (-n) else fwO p day 1
def inB (n : Int) : Bool := decide (-99999 ≤ n) && decide (n ≤ 99999)
def adV (we : Int) (hs : List Int) (day n : Int) : Int := if chkE we hs [day] = 0 then (if inB n then nV (adO (bizB we hs) day n) else 0) else 0
def adE (we : Int) (hs : List Int) (day n : Int) : Int := if chkE we hs [day] = 0 then (if inB n then nE (adO (bizB we hs) day n) else 2) else chkE we hs [day]
set_option maxRecDepth 100000 in
set_option maxHeartbeats 1600000 in
theorem add_any (we : Int) (A : Option Addr) (c : Nat) (hs : List Int) (day n v e : Int) (w : World) (h : CalIn w we A c hs) (n0 : -9223372036854775808 ≤ n) (n1 : n ≤ 9223372036854775807) (hV : VarD w) (h1 : adV we hs day n = v) (h2 : adE we hs day n = e) :
    Calls Tryd.prog 13 #[.agg #[.int .u8 we, .slice A hs.length c], .int .i64 day, .int .i64 n] w fun x w' => x = .returned (.tuple #[.int .i64 v, .int .i64 e]) ∧ Below w.heap.size w w' := by
  obtain ⟨g, hg⟩ : ∃ g, chkE we hs [day] = g := ⟨_, rfl⟩
  have HK := Lib.hid (checked1_any we A c hs day g w h hg)
  have hC := CalAt.new (we := we) (c := c) h.rd
  have c0 := hC.c0
  have c1 := hC.c1
  unfold adV at h1
  unfold adE at h2
  rw [hg] at h1 h2
  clear hC
  by_cases hv0 : g = 0
  · subst hv0
    rw [if_pos rfl] at h1 h2
    obtain ⟨hval, hds⟩ := chk_val hg
    obtain ⟨d0, d1⟩ := hds day (by simp)
    have HB := Lib.hid (businessOf_any we A hs.length c)
    by_cases hr : inB n = true
    · rw [if_pos hr] at h1 h2
      simp only [inB, Bool.and_eq_true, decide_eq_true_eq] at hr
      obtain ⟨r0, r1⟩ := hr
      have hz := fun w' (hh : HsA w' A hs) => bizAt_new we A c hs w' hh h.w0 h.w1 hval
      rcases Int.lt_trichotomy n 0 with hn | hn | hn
      · have e0 : adO (bizB we hs) day n = bwO (bizB we hs) (day - 1) (-n) := by unfold adO; rw [if_neg (by omega), if_pos hn]
        rw [e0] at h1 h2
        have HZ : Hid (∀ w', HsA w' A hs → Calls Tryd.prog 27 #[.func (.func 40) #[] #[.pointer (some ⟨w'.heap.size, 0, none⟩)], .int .i64 (day - 1), .int .i64 (-1), .int .i64 (-n)] (w'.alloc (.cells #[.int .u8 we, .slice A hs.length c] 24)) fun x w2 => x = .returned (.tuple #[.int .i64 v, .int .i64 e]) ∧ Below w'.heap.size w' w2) :=
          fun w' hh => (nth_any w'.heap.size (bizB we hs) (-1) (day - 1) (-n) _ v e _ (hz w' hh) (At.bwd _ (by omega) (by omega)) (by omega) (by omega) h1 h2).mono fun x w2 ⟨a, b⟩ => ⟨a, bt (bel1 w' _) b⟩
        clear h1 h2 hg hds hval h hV hz e0
        go_enter Tryd.func13, Tryd.ntmps13
        go_wp2_with (first
          | (go_at_call 24; ((with_reducible refine HK.out.mono ?_); rintro e w1 ⟨rfl, hb, hC⟩; have B1 := Lib.hid hb; have HC := Lib.hid hC; have k0 := hC.c0; have k1 := hC.c1; clear hb hC))
          | (go_at_call 25; ((with_reducible refine (HB.out _).mono ?_); rintro e w2 ⟨rfl, rfl⟩))
          | (go_at_call 27; ((with_reducible refine (HZ.out _ HC.out.hs).mono ?_); rintro x w2 ⟨rfl, hb⟩; have B2 := Lib.hid (bt B1.out hb); clear hb)))
        go_ret2
        exact ⟨rfl, B2.out⟩
      · subst hn
        have e0 : adO (bizB we hs) day 0 = rolO (fun _ => true) (bizB we hs) 1 day := rfl
        rw [e0] at h1 h2
        have HZ : Hid (∀ w', HsA w' A hs → Below w.heap.size w w' → Calls Tryd.prog 26 #[.func (.func 40) #[] #[.pointer (some ⟨w'.heap.size, 0, none⟩)], .int .i64 day, .int .u8 1] (w'.alloc (.cells #[.int .u8 we, .slice A hs.length c] 24)) fun x w2 => x = .returned (.tuple #[.int .i64 v, .int .i64 e]) ∧ Below w'.heap.size w' w2) := by
          intro w' hh hb
          obtain ⟨S, hS⟩ := smIs_ex day d0
          exact (rolled_any w'.heap.size (bizB we hs) S day 1 v e _ (hz w' hh) hS d0 d1 (by omega) (by omega) ((hV.below hb).below (bel1 _ _)) h1 h2).mono fun x w2 ⟨a, b⟩ => ⟨a, bt (bel1 w' _) b⟩
        clear h1 h2 hg hds hval h hV hz e0
        go_enter Tryd.func13, Tryd.ntmps13
        go_wp2_with (first
          | (go_at_call 24; ((with_reducible refine HK.out.mono ?_); rintro e w1 ⟨rfl, hb, hC⟩; have B1 := Lib.hid hb; have HC := Lib.hid hC; have k0 := hC.c0; have k1 := hC.c1; clear hb hC))
          | (go_at_call 25; ((with_reducible refine (HB.out _).mono ?_); rintro e w2 ⟨rfl, rfl⟩))
          | (go_at_call 26; ((with_reducible refine (HZ.out _ HC.out.hs B1.out).mono ?_); rintro x w2 ⟨rfl, hb⟩; have B2 := Lib.hid (bt B1.out hb); clear hb)))
        go_ret2
        exact ⟨rfl, B2.out⟩
      · have e0 : adO (bizB we hs) day n = fwO (bizB we hs) (day + 1) n := by unfold adO; rw [if_pos hn]
        rw [e0] at h1 h2
        have HZ : Hid (∀ w', HsA w' A hs → Calls Tryd.prog 27 #[.func (.func 40) #[] #[.pointer (some ⟨w'.heap.size, 0, none⟩)], .int .i64 (day + 1), .int .i64 1, .int .i64 n] (w'.alloc (.cells #[.int .u8 we, .slice A hs.length c] 24)) fun x w2 => x = .returned (.tuple #[.int .i64 v, .int .i64 e]) ∧ Below w'.heap.size w' w2) :=
          fun w' hh => (nth_any w'.heap.size (bizB we hs) 1 (day + 1) n _ v e _ (hz w' hh) (At.fwd _ (by omega) (by omega)) (by omega) (by omega) h1 h2).mono fun x w2 ⟨a, b⟩ => ⟨a, bt (bel1 w' _) b⟩
        clear h1 h2 hg hds hval h hV hz e0
        go_enter Tryd.func13, Tryd.ntmps13
        go_wp2_with (first
          | (go_at_call 24; ((with_reducible refine HK.out.mono ?_); rintro e w1 ⟨rfl, hb, hC⟩; have B1 := Lib.hid hb; have HC := Lib.hid hC; have k0 := hC.c0; have k1 := hC.c1; clear hb hC))
          | (go_at_call 25; ((with_reducible refine (HB.out _).mono ?_); rintro e w2 ⟨rfl, rfl⟩))
          | (go_at_call 27; ((with_reducible refine (HZ.out _ HC.out.hs).mono ?_); rintro x w2 ⟨rfl, hb⟩; have B2 := Lib.hid (bt B1.out hb); clear hb)))
        go_ret2
        exact ⟨rfl, B2.out⟩
    · rw [if_neg hr] at h1 h2
      subst h1 h2
      have hr' : n < -99999 ∨ (-99999 ≤ n ∧ 99999 < n) := by
        simp only [inB, Bool.and_eq_true, decide_eq_true_eq] at hr; omega
      clear hg hds hval d0 d1 h hV hr
      rcases hr' with hr' | ⟨hr1, hr'⟩
      all_goals
        go_enter Tryd.func13, Tryd.ntmps13
        go_wp2_with (first
          | (go_at_call 24; ((with_reducible refine HK.out.mono ?_); rintro e w1 ⟨rfl, hb, hC⟩; have B1 := Lib.hid hb; have HC := Lib.hid hC; have k0 := hC.c0; have k1 := hC.c1; clear hb hC)))
        go_ret2
        exact ⟨rfl, B1.out⟩
  · rw [if_neg hv0] at h1 h2
    subst h1 h2
    have hv1 : (g == 0) = false := by rw [beq_eq_false_iff_ne]; exact hv0
    have hv2 : (g != 0) = true := by rw [bne_iff_ne]; exact hv0
    clear hv0
    go_enter Tryd.func13, Tryd.ntmps13
    go_wp2_with (first
      | (go_at_call 24; ((with_reducible refine HK.out.mono ?_); rintro e w1 ⟨rfl, hb, hC⟩; have B1 := Lib.hid hb; clear hb hC)))
    go_ret2
    exact ⟨rfl, B1.out⟩

def coV (we : Int) (hs : List Int) (a b : Int) : Int := if chkE we hs [a, b] = 0 then cntV (bizB we hs) a b else 0
set_option maxRecDepth 100000 in
set_option maxHeartbeats 1600000 in
theorem count_any (we : Int) (A : Option Addr) (c : Nat) (hs : List Int) (a b v e : Int) (w : World) (h : CalIn w we A c hs) (h1 : coV we hs a b = v) (h2 : chkE we hs [a, b] = e) :
    Calls Tryd.prog 14 #[.agg #[.int .u8 we, .slice A hs.length c], .int .i64 a, .int .i64 b] w fun x w' => x = .returned (.tuple #[.int .i64 v, .int .i64 e]) ∧ Below w.heap.size w w' := by
  have HK := Lib.hid (checked2_any we A c hs a b e w h h2)
  have hC := CalAt.new (we := we) (c := c) h.rd
  have c0 := hC.c0
  have c1 := hC.c1
  unfold coV at h1
  rw [h2] at h1
  clear hC
  by_cases hv0 : e = 0
  · subst hv0
    rw [if_pos rfl] at h1
    obtain ⟨hval, hds⟩ := chk_val h2
    obtain ⟨d0, d1⟩ := hds a (by simp)
    obtain ⟨d2, d3⟩ := hds b (by simp)
    have HB := Lib.hid (businessOf_any we A hs.length c)
    have hz := fun w' (hh : HsA w' A hs) => bizAt_new we A c hs w' hh h.w0 h.w1 hval
    by_cases hab : b < a
    · have hw : 0 ≤ cntV (bizB we hs) b a ∧ cntV (bizB we hs) b a ≤ 99999 := by have := cumI_mono (bizB we hs) d2 (by omega : b ≤ a); unfold cntV; omega
      have hvv : v = -cntV (bizB we hs) b a := by rw [← h1]; unfold cntV; omega
      have HZ : Hid (∀ w', HsA w' A hs → Calls Tryd.prog 28 #[.func (.func 40) #[] #[.pointer (some ⟨w'.heap.size, 0, none⟩)], .int .i64 b, .int .i64 a] (w'.alloc (.cells #[.int .u8 we, .slice A hs.length c] 24)) fun x w2 => x = .returned (.int .i64 (cntV (bizB we hs) b a)) ∧ Below w'.heap.size w' w2) :=
        fun w' hh => (between_any w'.heap.size (bizB we hs) b a _ _ (hz w' hh) d2 (by omega) d1 rfl).mono fun x w2 ⟨a, b⟩ => ⟨a, bt (bel1 w' _) b⟩
      have HV := Lib.hid hvv
      clear h1 h2 hds hval h hz hvv
      generalize cntV (bizB we hs) b a = u at *
      obtain ⟨hw0, hw1⟩ := hw
      go_enter Tryd.func14, Tryd.ntmps14
      go_wp2_with (first
        | (go_at_call 24; ((with_reducible refine HK.out.mono ?_); rintro e w1 ⟨rfl, hb, hC⟩; have B1 := Lib.hid hb; have HC := Lib.hid hC; have k0 := hC.c0; have k1 := hC.c1; clear hb hC))
        | (go_at_call 25; ((with_reducible refine (HB.out _).mono ?_); rintro e w2 ⟨rfl, rfl⟩))
        | (go_at_call 28; ((with_reducible refine (HZ.out _ HC.out.hs).mono ?_); rintro x w2 ⟨rfl, hb⟩; have B2 := Lib.hid (bt B1.out hb); clear hb)))
      go_ret2
      exact ⟨by rw [HV.out]; rfl, B2.out⟩
    · have HZ : Hid (∀ w', HsA w' A hs → Calls Tryd.prog 28 #[.func (.func 40) #[] #[.pointer (some ⟨w'.heap.size, 0, none⟩)], .int .i64 a, .int .i64 b] (w'.alloc (.cells #[.int .u8 we, .slice A hs.length c] 24)) fun x w2 => x = .returned (.int .i64 v) ∧ Below w'.heap.size w' w2) :=
        fun w' hh => (between_any w'.heap.size (bizB we hs) a b _ _ (hz w' hh) d0 (by omega) d3 h1).mono fun x w2 ⟨a, b⟩ => ⟨a, bt (bel1 w' _) b⟩
      clear h1 h2 hds hval h hz
      go_enter Tryd.func14, Tryd.ntmps14
      go_wp2_with (first
        | (go_at_call 24; ((with_reducible refine HK.out.mono ?_); rintro e w1 ⟨rfl, hb, hC⟩; have B1 := Lib.hid hb; have HC := Lib.hid hC; have k0 := hC.c0; have k1 := hC.c1; clear hb hC))
        | (go_at_call 25; ((with_reducible refine (HB.out _).mono ?_); rintro e w2 ⟨rfl, rfl⟩))
        | (go_at_call 28; ((with_reducible refine (HZ.out _ HC.out.hs).mono ?_); rintro x w2 ⟨rfl, hb⟩; have B2 := Lib.hid (bt B1.out hb); clear hb)))
      go_ret2
      exact ⟨rfl, B2.out⟩
  · rw [if_neg hv0] at h1
    subst h1
    have hv1 : (e == 0) = false := by rw [beq_eq_false_iff_ne]; exact hv0
    have hv2 : (e != 0) = true := by rw [bne_iff_ne]; exact hv0
    clear hv0
    go_enter Tryd.func14, Tryd.ntmps14
    go_wp2_with (first
      | (go_at_call 24; ((with_reducible refine HK.out.mono ?_); rintro x w1 ⟨rfl, hb, hC⟩; have B1 := Lib.hid hb; clear hb hC)))
    go_ret2
    exact ⟨rfl, B1.out⟩
end Go.Proofs.YtgnmcjfocnnffaaDoor

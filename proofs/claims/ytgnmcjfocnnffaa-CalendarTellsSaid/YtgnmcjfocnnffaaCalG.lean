/- Layer 4: the program's walks: the exported functions. -/
import Derived.Test.YtgnmcjfocnnffaaCalF
namespace Go.Proofs.Ytgnmcjfocnnffaa
open Go Go.RowKit

theorem bel1 (w : World) (o : Obj) : Below w.heap.size w (w.alloc o) := (Below.refl _ w).alloc (Nat.le_refl _) _
theorem bel2 (w : World) (o o' : Obj) : Below w.heap.size w ((w.alloc o).alloc o') := (bel1 w o).alloc (by simp) _
theorem bt {a b c : World} (h : Below a.heap.size a b) (k : Below b.heap.size b c) : Below a.heap.size a c := h.trans (k.mono h.size)
theorem cell_at_new (w : World) (xs : Array Value) (t : TypeId) (j : Nat) (v : Value) (h : xs[j]? = some v) : (w.alloc (.cells xs t)).cell? ⟨w.heap.size, j, none⟩ = some v := by
  unfold World.cell?
  rw [heap_alloc_new]
  exact h
theorem hs_new (w : World) (xs : List Int) (t : TypeId) : HsA (w.alloc (.cells (xs.map (Value.int .i64)).toArray t)) (some ⟨w.heap.size, 0, none⟩) xs := by
  refine .inr ⟨w.heap.size, 0, rfl, by simp, fun j hj => ?_⟩
  rw [Nat.zero_add]
  refine cell_at_new w _ t j _ ?_
  simp [List.getD_eq_getElem?_getD, List.getElem?_eq_getElem hj]

section
variable (we : Int) (A : Option Addr) (c : Nat) (hs : List Int)
/-- A calendar, boxed. -/
def calO : Obj := .cells #[.int .u8 we, .slice A hs.length c] 24
/-- The world when checked is called at one day, at two days. -/
def cW1 (d : Int) (w : World) : World := (w.alloc (.cells #[.int .u8 we, .slice A hs.length c] 24)).alloc (.cells #[.int .i64 d] 3)
def cW2 (d e : Int) (w : World) : World := (w.alloc (.cells #[.int .u8 we, .slice A hs.length c] 24)).alloc (.cells #[.int .i64 d, .int .i64 e] 3)
theorem checked1_any (d v : Int) (w : World) (h : CalIn w we A c hs) (hv : chkE we hs [d] = v) :
    Calls Try.prog 12 #[.agg #[.int .u8 we, .slice A hs.length c], .slice (some ⟨w.heap.size + 1, 0, none⟩) 1 1] ((w.alloc (.cells #[.int .u8 we, .slice A hs.length c] 24)).alloc (.cells #[.int .i64 d] 3)) fun e w' => e = .returned (.int .i64 v) ∧ Below w.heap.size w w' ∧ CalAt w' w.heap.size we A c hs := by
  have h1 := hs_new (w.alloc (.cells #[.int .u8 we, .slice A hs.length c] 24)) [d] 3
  rw [World.size_alloc] at h1
  exact (checked_any we A c hs _ 1 [d] v _ (h.below (bel2 w _ _)) h1 (by simp) hv).mono fun e w' ⟨a, b⟩ => ⟨a, bt (bel2 w _ _) b, ((CalAt.new h.rd).below (bel1 _ _)).below b⟩
theorem checked2_any (d d2 v : Int) (w : World) (h : CalIn w we A c hs) (hv : chkE we hs [d, d2] = v) :
    Calls Try.prog 12 #[.agg #[.int .u8 we, .slice A hs.length c], .slice (some ⟨w.heap.size + 1, 0, none⟩) 2 2] ((w.alloc (.cells #[.int .u8 we, .slice A hs.length c] 24)).alloc (.cells #[.int .i64 d, .int .i64 d2] 3)) fun e w' => e = .returned (.int .i64 v) ∧ Below w.heap.size w w' ∧ CalAt w' w.heap.size we A c hs := by
  have h1 := hs_new (w.alloc (.cells #[.int .u8 we, .slice A hs.length c] 24)) [d, d2] 3
  rw [World.size_alloc] at h1
  exact (checked_any we A c hs _ 2 [d, d2] v _ (h.below (bel2 w _ _)) h1 (by simp) hv).mono fun e w' ⟨a, b⟩ => ⟨a, bt (bel2 w _ _) b, ((CalAt.new h.rd).below (bel1 _ _)).below b⟩
/-- The closure, once it is made. -/
theorem bizAt_new (w : World) (h : HsA w A hs) (w0 : 0 ≤ we) (w1 : we ≤ 255) (hv : valB we hs = true) : BizAt (w.alloc (.cells #[.int .u8 we, .slice A hs.length c] 24)) w.heap.size (bizB we hs) :=
  bizAt_of (CalAt.new h) w0 w1 hv
end
theorem chk_val {we : Int} {hs ds : List Int} (h : chkE we hs ds = 0) : valB we hs = true ∧ ∀ d ∈ ds, 0 ≤ d ∧ d ≤ 99999 := by
  unfold chkE at h
  split at h
  · split at h
    · next h1 h2 => exact ⟨h1, fun d hd => (dayB_iff d).1 (List.all_eq_true.1 h2 d hd)⟩
    · simp at h
  · simp at h

set_option maxRecDepth 100000 in
set_option maxHeartbeats 1600000 in
theorem business_any (we : Int) (A : Option Addr) (c : Nat) (hs : List Int) (d : Int) (b : Bool) (v : Int) (w : World) (h : CalIn w we A c hs) (hv : chkE we hs [d] = v) (hb : (v = 0 ∧ bizB we hs d = b) ∨ (v ≠ 0 ∧ b = false)) :
    Calls Try.prog 5 #[.agg #[.int .u8 we, .slice A hs.length c], .int .i64 d] w fun e w' => e = .returned (.tuple #[.bool b, .int .i64 v]) ∧ Below w.heap.size w w' := by
  have HK := Lib.hid (checked1_any we A c hs d v w h hv)
  have hC := CalAt.new (we := we) (c := c) h.rd
  have c0 := hC.c0
  have c1 := hC.c1
  clear hC
  rcases hb with ⟨rfl, hb⟩ | ⟨hv0, rfl⟩
  · obtain ⟨hval, hds⟩ := chk_val hv
    obtain ⟨d0, d1⟩ := hds d (by simp)
    have HZ : Hid (∀ w', HsA w' A hs → Calls Try.prog 19 #[.int .i64 d, .pointer (some ⟨w'.heap.size, 0, none⟩)] (w'.alloc (.cells #[.int .u8 we, .slice A hs.length c] 24)) fun e w2 => e = .returned (.bool b) ∧ Below w'.heap.size w' w2) :=
      fun w' hh => by
        have := (bizAt_new we A c hs w' hh h.w0 h.w1 hval).2 _ (Below.refl _ _) d d0 d1
        rw [hb] at this
        exact this.mono fun e w2 ⟨a, b⟩ => ⟨a, bt (bel1 w' _) b⟩
    have HB := Lib.hid (businessOf_any we A hs.length c)
    clear hv hb hds hval d0 d1 h
    go_enter Try.func5, Try.ntmps5
    go_wp2_with (first
      | (go_at_call 12; ((with_reducible refine HK.out.mono ?_); rintro e w1 ⟨rfl, hb, hC⟩; have B1 := Lib.hid hb; have HC := Lib.hid hC; have k0 := hC.c0; have k1 := hC.c1; clear hb hC))
      | (go_at_call 13; ((with_reducible refine (HB.out _).mono ?_); rintro e w2 ⟨rfl, rfl⟩))
      | (go_at_call 19; ((with_reducible refine (HZ.out _ HC.out.hs).mono ?_); rintro e w2 ⟨rfl, hb⟩; have B2 := Lib.hid (bt B1.out hb); clear hb)))
    go_ret2
    exact ⟨rfl, B2.out⟩
  · have hv1 : (v == 0) = false := by rw [beq_eq_false_iff_ne]; exact hv0
    have hv2 : (v != 0) = true := by rw [bne_iff_ne]; exact hv0
    clear hv h
    go_enter Try.func5, Try.ntmps5
    go_wp2_with (first
      | (go_at_call 12; ((with_reducible refine HK.out.mono ?_); rintro e w1 ⟨rfl, hb, hC⟩; have B1 := Lib.hid hb; clear hb hC)))
    go_ret2
    exact ⟨rfl, B1.out⟩

def rlV (S : Int → Bool) (we : Int) (hs : List Int) (day r : Int) : Int := if chkE we hs [day] = 0 then (if r ≤ 4 then nV (rolO S (bizB we hs) r day) else 0) else 0
def rlE (S : Int → Bool) (we : Int) (hs : List Int) (day r : Int) : Int := if chkE we hs [day] = 0 then (if r ≤ 4 then nE (rolO S (bizB we hs) r day) else 2) else chkE we hs [day]
def adO (p : Int → Bool) (day n : Int) : Option Int := if 0 < n then fwO p (day + 1) n else if n < 0 then bwO p (day - 1) (-n) else fwO p day 1
def inB (n : Int) : Bool := decide (-99999 ≤ n) && decide (n ≤ 99999)
def adV (we : Int) (hs : List Int) (day n : Int) : Int := if chkE we hs [day] = 0 then (if inB n then nV (adO (bizB we hs) day n) else 0) else 0
def adE (we : Int) (hs : List Int) (day n : Int) : Int := if chkE we hs [day] = 0 then (if inB n then nE (adO (bizB we hs) day n) else 2) else chkE we hs [day]
def coV (we : Int) (hs : List Int) (a b : Int) : Int := if chkE we hs [a, b] = 0 then cntV (bizB we hs) a b else 0
end Go.Proofs.Ytgnmcjfocnnffaa

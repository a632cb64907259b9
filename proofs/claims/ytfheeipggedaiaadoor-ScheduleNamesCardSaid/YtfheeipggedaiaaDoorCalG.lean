/- Layer 4: the program's walks: the exported functions. -/
import Derived.Test.YtfheeipggedaiaaDoorCalF
namespace Go.Proofs.YtfheeipggedaiaaDoor
open Go Go.RowKit

theorem bel1 (w : World) (o : Obj) : Below w.heap.size w (w.alloc o) := (Below.refl _ w).alloc (Nat.le_refl _) _
theorem bel2 (w : World) (o o' : Obj) : Below w.heap.size w ((w.alloc o).alloc o') := (bel1 w o).alloc (by simp) _
theorem btC {a b c : World} (h : Below a.heap.size a b) (k : Below b.heap.size b c) : Below a.heap.size a c := h.trans (k.mono h.size)
theorem cell_at_new (w : World) (xs : Array Value) (t : TypeId) (j : Nat) (v : Value) (h : xs[j]? = some v) : (w.alloc (.cells xs t)).cell? ⟨w.heap.size, j, none⟩ = some v := by
  unfold World.cell?
  rw [heap_alloc_new]
  exact h
theorem hs_new (w : World) (xs : List Int) (t : TypeId) : HsA (w.alloc (.cells (xs.map (Value.int .i64)).toArray t)) (some ⟨w.heap.size, 0, none⟩) xs := by
  refine .inr ⟨w.heap.size, 0, rfl, by simp, fun j hj => ?_⟩
  rw [Nat.zero_add]
  refine cell_at_new w _ t j _ ?_
  simp [List.getD_eq_getElem?_getD, List.getElem?_eq_getElem hj]

section
variable (we : Int) (A : Option Addr) (c : Nat) (hs : List Int)
/-- A calendar, boxed. -/
def calO : Obj := .cells #[.int .u8 we, .slice A hs.length c] 25
/-- The world when checked is called at one day, at two days. -/
def cW1 (d : Int) (w : World) : World := (w.alloc (.cells #[.int .u8 we, .slice A hs.length c] 25)).alloc (.cells #[.int .i64 d] 3)
def cW2 (d e : Int) (w : World) : World := (w.alloc (.cells #[.int .u8 we, .slice A hs.length c] 25)).alloc (.cells #[.int .i64 d, .int .i64 e] 3)
theorem checked1_any (d v : Int) (w : World) (h : CalIn w we A c hs) (hv : chkE we hs [d] = v) :
    Calls Tryd.prog 38 #[.agg #[.int .u8 we, .slice A hs.length c], .slice (some ⟨w.heap.size + 1, 0, none⟩) 1 1] ((w.alloc (.cells #[.int .u8 we, .slice A hs.length c] 25)).alloc (.cells #[.int .i64 d] 3)) fun e w' => e = .returned (.int .i64 v) ∧ Below w.heap.size w w' ∧ CalAt w' w.heap.size we A c hs := by
  have h1 := hs_new (w.alloc (.cells #[.int .u8 we, .slice A hs.length c] 25)) [d] 3
  rw [World.size_alloc] at h1
  exact (checked_any we A c hs _ 1 [d] v _ (h.below (bel2 w _ _)) h1 (by simp) hv).mono fun e w' ⟨a, b⟩ => ⟨a, btC (bel2 w _ _) b, ((CalAt.new h.rd).below (bel1 _ _)).below b⟩
theorem checked2_any (d d2 v : Int) (w : World) (h : CalIn w we A c hs) (hv : chkE we hs [d, d2] = v) :
    Calls Tryd.prog 38 #[.agg #[.int .u8 we, .slice A hs.length c], .slice (some ⟨w.heap.size + 1, 0, none⟩) 2 2] ((w.alloc (.cells #[.int .u8 we, .slice A hs.length c] 25)).alloc (.cells #[.int .i64 d, .int .i64 d2] 3)) fun e w' => e = .returned (.int .i64 v) ∧ Below w.heap.size w w' ∧ CalAt w' w.heap.size we A c hs := by
  have h1 := hs_new (w.alloc (.cells #[.int .u8 we, .slice A hs.length c] 25)) [d, d2] 3
  rw [World.size_alloc] at h1
  exact (checked_any we A c hs _ 2 [d, d2] v _ (h.below (bel2 w _ _)) h1 (by simp) hv).mono fun e w' ⟨a, b⟩ => ⟨a, btC (bel2 w _ _) b, ((CalAt.new h.rd).below (bel1 _ _)).below b⟩
/-- The closure, once it is made. -/
theorem bizAt_new (w : World) (h : HsA w A hs) (w0 : 0 ≤ we) (w1 : we ≤ 255) (hv : valB we hs = true) : BizAt (w.alloc (.cells #[.int .u8 we, .slice A hs.length c] 25)) w.heap.size (bizB we hs) :=
  bizAt_of (CalAt.new h) w0 w1 hv
end
theorem chk_val {we : Int} {hs ds : List Int} (h : chkE we hs ds = 0) : valB we hs = true ∧ ∀ d ∈ ds, 0 ≤ d ∧ d ≤ 99999 := by
  unfold chkE at h
  split at h
  · split at h
    · next h1 h2 => exact ⟨h1, fun d hd => (dayB_iff d).1 (List.all_eq_true.1 h2 d hd)⟩
    · simp at h
  · simp at h

def rlV (S : Int → Bool) (we : Int) (hs : List Int) (day r : Int) : Int := if chkE we hs [day] = 0 then (if r ≤ 4 then nV (rolO S (bizB we hs) r day) else 0) else 0
def rlE (S : Int → Bool) (we : Int) (hs : List Int) (day r : Int) : Int := if chkE we hs [day] = 0 then (if r ≤ 4 then nE (rolO S (bizB we hs) r day) else 2) else chkE we hs [day]
set_option maxRecDepth 100000 in
set_option maxHeartbeats 1600000 in
theorem roll_any (we : Int) (A : Option Addr) (c : Nat) (hs : List Int) (S : Int → Bool) (day r v e : Int) (w : World) (h : CalIn w we A c hs) (r0 : 0 ≤ r) (hS : 0 ≤ day → SmIs day S) (hV : VarD w) (h1 : rlV S we hs day r = v) (h2 : rlE S we hs day r = e) :
    Calls Tryd.prog 24 #[.agg #[.int .u8 we, .slice A hs.length c], .int .i64 day, .int .u8 r] w fun x w' => x = .returned (.tuple #[.int .i64 v, .int .i64 e]) ∧ Below w.heap.size w w' := by
  obtain ⟨g, hg⟩ : ∃ g, chkE we hs [day] = g := ⟨_, rfl⟩
  have HK := Lib.hid (checked1_any we A c hs day g w h hg)
  have hC := CalAt.new (we := we) (c := c) h.rd
  have c0 := hC.c0
  have c1 := hC.c1
  unfold rlV at h1
  unfold rlE at h2
  rw [hg] at h1 h2
  clear hC
  by_cases hv0 : g = 0
  · subst hv0
    rw [if_pos rfl] at h1 h2
    obtain ⟨hval, hds⟩ := chk_val hg
    obtain ⟨d0, d1⟩ := hds day (by simp)
    by_cases hr : r ≤ 4
    · rw [if_pos hr] at h1 h2
      have HZ : Hid (∀ w', Below w.heap.size w w' → HsA w' A hs → Calls Tryd.prog 39 #[.func (.func 58) #[] #[.pointer (some ⟨w'.heap.size, 0, none⟩)], .int .i64 day, .int .u8 r] (w'.alloc (.cells #[.int .u8 we, .slice A hs.length c] 25)) fun x w2 => x = .returned (.tuple #[.int .i64 v, .int .i64 e]) ∧ Below w'.heap.size w' w2) :=
        fun w' hb hh => (rolled_any w'.heap.size (bizB we hs) S day r v e _ (bizAt_new we A c hs w' hh h.w0 h.w1 hval) (hS d0) d0 d1 r0 hr ((hV.below hb).below (bel1 _ _)) h1 h2).mono fun x w2 ⟨a, b⟩ => ⟨a, btC (bel1 w' _) b⟩
      have HB := Lib.hid (businessOf_any we A hs.length c)
      clear h1 h2 hg hds hval d0 d1 h hS hV
      go_enter Tryd.func24, Tryd.ntmps24
      go_wp2_with (first
        | (go_at_call 38; ((with_reducible refine HK.out.mono ?_); rintro e w1 ⟨rfl, hb, hC⟩; have B1 := Lib.hid hb; have HC := Lib.hid hC; have k0 := hC.c0; have k1 := hC.c1; clear hb hC))
        | (go_at_call 40; ((with_reducible refine (HB.out _).mono ?_); rintro e w2 ⟨rfl, rfl⟩))
        | (go_at_call 39; ((with_reducible refine (HZ.out _ B1.out HC.out.hs).mono ?_); rintro x w2 ⟨rfl, hb⟩; have B2 := Lib.hid (btC B1.out hb); clear hb)))
      go_ret2
      exact ⟨rfl, B2.out⟩
    · rw [if_neg hr] at h1 h2
      subst h1 h2
      have hr' : 4 < r := by omega
      clear hg hds hval d0 d1 h hS hV hr
      go_enter Tryd.func24, Tryd.ntmps24
      go_wp2_with (first
        | (go_at_call 38; ((with_reducible refine HK.out.mono ?_); rintro e w1 ⟨rfl, hb, hC⟩; have B1 := Lib.hid hb; have HC := Lib.hid hC; have k0 := hC.c0; have k1 := hC.c1; clear hb hC)))
      go_ret2
      exact ⟨rfl, B1.out⟩
  · rw [if_neg hv0] at h1 h2
    subst h1 h2
    have hv1 : (g == 0) = false := by rw [beq_eq_false_iff_ne]; exact hv0
    have hv2 : (g != 0) = true := by rw [bne_iff_ne]; exact hv0
    clear hv0
    go_enter Tryd.func24, Tryd.ntmps24
    go_wp2_with (first
      | (go_at_call 38; ((with_reducible refine HK.out.mono ?_); rintro e w1 ⟨rfl, hb, hC⟩; have B1 := Lib.hid hb; clear hb hC)))
    go_ret2
    exact ⟨rfl, B1.out⟩

def adO (p : Int → Bool) (day n : Int) : Option Int := if 0 < n then fwO p (day + 1) n else if n < 0 then bwO p (day - 1) (-n) else fwO p day 1
def inB (n : Int) : Bool := decide (-99999 ≤ n) && decide (n ≤ 99999)
def adV (we : Int) (hs : List Int) (day n : Int) : Int := if chkE we hs [day] = 0 then (if inB n then nV (adO (bizB we hs) day n) else 0) else 0
def adE (we : Int) (hs : List Int) (day n : Int) : Int := if chkE we hs [day] = 0 then (if inB n then nE (adO (bizB we hs) day n) else 2) else chkE we hs [day]
def coV (we : Int) (hs : List Int) (a b : Int) : Int := if chkE we hs [a, b] = 0 then cntV (bizB we hs) a b else 0
end Go.Proofs.YtfheeipggedaiaaDoor

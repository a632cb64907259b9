/- Layer 4: the reference's walks: Count, Business, and comparisons of calendars. -/
import Derived.Test.YtfheeipggedaiaaDoorCalJ
namespace Go.Proofs.YtfheeipggedaiaaDoor
open Go Go.RowKit

def grtB (hs : List Int) : Bool := decide (1100 < hs.length) || (decide (100 < hs.length) && decide (hs.length ≤ 1000))
set_option maxRecDepth 100000 in
set_option maxHeartbeats 1600000 in
theorem great_anyC (we : Int) (A : Option Addr) (c : Nat) (hs : List Int) (b : Bool) (w : World) (h : CalIn w we A c hs) (hb : grtB hs = b) :
    Calls Tryd.prog 18 #[.agg #[.int .u8 we, .slice A hs.length c]] w fun x w' => x = .returned (.bool b) ∧ Below w.heap.size w w' := by
  have C1 := Lib.hid (CalAt.new (we := we) (c := c) h.rd)
  have B1 := Lib.hid (bel1 w (.cells #[.int .u8 we, .slice A hs.length c] 25))
  have c0 := C1.out.c0
  have c1 := C1.out.c1
  have hl := h.len
  unfold grtB at hb
  obtain ⟨n, hn⟩ : ∃ n, hs.length = n := ⟨_, rfl⟩
  rw [hn] at hb hl c1 C1 B1 ⊢
  rw [hn] at c0
  clear h hn
  have h3 : n ≤ 100 ∨ (100 < n ∧ n ≤ 1000) ∨ (1000 < n ∧ n ≤ 1100) ∨ 1100 < n := by omega
  rcases h3 with h3 | ⟨h3, h4⟩ | ⟨h3, h4⟩ | h3
  · have hb' : Hid (false = b) := by show _ = _; rw [← hb, decide_eq_false (by omega), decide_eq_false (by omega)]; rfl
    have h5 : (n : Int) ≤ 100 := by omega
    clear hb h3 hl
    go_enter Tryd.func18, Tryd.ntmps18
    go_wp2
    all_goals
      go_ret
      refine ⟨ret_boolD ?_, B1.out⟩
      first | exact hb'.out | (rw [← hb'.out]; simp; omega)
  · have hb' : Hid (true = b) := by show _ = _; rw [← hb, decide_eq_false (by omega), decide_eq_true (by omega), decide_eq_true (by omega)]; rfl
    have h5 : (100 : Int) < n := by omega
    have h6 : (n : Int) ≤ 1000 := by omega
    clear hb h3 h4 hl
    go_enter Tryd.func18, Tryd.ntmps18
    go_wp2
    all_goals
      go_ret
      refine ⟨ret_boolD ?_, B1.out⟩
      first | exact hb'.out | (rw [← hb'.out]; simp; omega)
  · have hb' : Hid (false = b) := by show _ = _; rw [← hb, decide_eq_false (by omega), decide_eq_true (by omega), decide_eq_false (by omega)]; rfl
    have h5 : (1000 : Int) < n := by omega
    have h6 : (n : Int) ≤ 1100 := by omega
    have h7 : (100 : Int) < n := by omega
    clear hb h3 h4 hl
    go_enter Tryd.func18, Tryd.ntmps18
    go_wp2
    all_goals
      go_ret
      refine ⟨ret_boolD ?_, B1.out⟩
      first | exact hb'.out | (rw [← hb'.out]; simp; omega)
  · have hb' : Hid (true = b) := by show _ = _; rw [← hb, decide_eq_true (by omega)]; rfl
    have h5 : (1100 : Int) < n := by omega
    clear hb h3 hl
    go_enter Tryd.func18, Tryd.ntmps18
    go_wp2
    all_goals
      go_ret
      refine ⟨ret_boolD ?_, B1.out⟩
      first | exact hb'.out | (rw [← hb'.out]; simp; omega)

def samB (we1 we2 : Int) (hs1 hs2 : List Int) : Bool := decide (we1 = we2) && decide (hs1 = hs2)
theorem samB_len {we1 we2 : Int} {hs1 hs2 : List Int} (h : samB we1 we2 hs1 hs2 = true) : we1 = we2 ∧ hs1 = hs2 := by simpa [samB] using h
/-- Two lists of one length, up to a place. -/
theorem ext_to {xs ys : List Int} (hl : xs.length = ys.length) (h : ∀ j, j < xs.length → xs.getD j 0 = ys.getD j 0) : xs = ys := by
  refine List.ext_getElem hl (fun j h1 h2 => ?_)
  have := h j h1
  rw [List.getD_eq_getElem?_getD, List.getD_eq_getElem?_getD, List.getElem?_eq_getElem h1, List.getElem?_eq_getElem h2] at this
  exact this
end Go.Proofs.YtfheeipggedaiaaDoor

/- The walks of layer 2: product, inverse, quotient. -/
import Derived.Test.YtpgfadkkfofhcaaGreatDoorRatS
import Derived.Test.YtpgfadkkfofhcaaGreatDoorRatM
import Derived.Test.YtpgfadkkfofhcaaGreatDoorRatE
import Derived.BigRegion
namespace Go.Proofs.YtpgfadkkfofhcaaGreatDoor
open Go Go.RowKit

theorem mul_lims {x y : Int} (hx : x.natAbs < lim) (hy : y.natAbs < lim) (r : ByteArray) (c : Int) (hr : r = if LB (x * y) = true then rep (x * y) else ⟨#[]⟩) (hc : c = if LB (x * y) = true then 0 else 14) (s t : ByteArray) (hs : rep x = s) (ht : rep y = t) (w : World) (hv : VarT w) :
    Calls Tryz.prog 104 #[.string s, .string t] w (StE r c w) := by
  subst hs; subst ht
  have h := mul_any (rep x) (rep y) (rep_size hx) (rep_size hy) w hv
  rw [rep_data, rep_data, opS_ok (by unfold bothE; rw [if_pos (chk_of_abs hx)]; exact chk_of_abs hy), num_itoa, num_itoa] at h
  subst hr; subst hc
  unfold limS at h
  cases hl : LB (x * y)
  · rw [if_neg (LB_false hl)] at h
    exact h
  · rw [if_pos (LB_true.1 hl)] at h
    exact h
theorem reduced_q {x y : Int} {q : Rat} (hx : x.natAbs < lim) (hy : y.natAbs < lim) (h0 : y ≠ 0) (hq : Rat.divInt x y = q) (s t : ByteArray) (hs : rep x = s) (ht : rep y = t) (w : World) (hv : VarT w) :
    Calls Tryz.prog 61 #[.string s, .string t] w (FraR (rep q.num) (rep (q.den : Int)) w) := by
  subst hq
  exact reduced_rep hx hy h0 s t _ _ hs ht (by rw [qN_rat h0]) (by rw [qD_rat h0]) w hv
end Go.Proofs.YtpgfadkkfofhcaaGreatDoor

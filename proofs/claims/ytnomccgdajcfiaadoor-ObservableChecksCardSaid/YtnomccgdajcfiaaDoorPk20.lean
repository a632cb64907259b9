/- Joined: RatAa, RatAb. -/
import Derived.Test.YtnomccgdajcfiaaDoorPk18
import Derived.Test.YtnomccgdajcfiaaDoorPk19
/- The walks of layer 2: Check, Add, Sub, Mul, Div, Compare on texts. -/
namespace Go.Proofs.YtnomccgdajcfiaaDoor
open Go Go.RowKit
set_option maxRecDepth 100000 in
set_option maxHeartbeats 1600000 in
theorem rcheck_any (s : ByteArray) (hs : s.size ≤ 1048576) (w : World) (hv : VarR w) :
    Calls Tryd.prog 34 #[.string s] w (IntB (chkR s.data.toList) w) := by
  have HP := Lib.hid (parse_rat s hs w hv)
  generalize (⟨(parS s.data.toList).1.toArray⟩ : ByteArray) = N at *
  generalize (⟨(parS s.data.toList).2.toArray⟩ : ByteArray) = D at *
  generalize chkR s.data.toList = c at *
  clear hv hs
  go_enter Tryd.func34, Tryd.ntmps34
  go_wp2_with (go_at_call 40; refine HP.out.mono ?_; rintro e w1 ⟨rfl, b1⟩)
  go_ret
  exact ⟨rfl, b1.alloc b1.size _⟩
end Go.Proofs.YtnomccgdajcfiaaDoor
/- The walks of layer 2: Compare. -/
namespace Go.Proofs.YtnomccgdajcfiaaDoor
open Go Go.RowKit
end Go.Proofs.YtnomccgdajcfiaaDoor

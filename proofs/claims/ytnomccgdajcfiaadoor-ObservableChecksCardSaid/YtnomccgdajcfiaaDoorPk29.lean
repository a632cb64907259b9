/- The law ObservableChecks. -/
import Derived.Test.YtnomccgdajcfiaaDoorPk28
import Derived.Test.YtnomccgdajcfiaaDoorPk5
namespace Go.Proofs.YtnomccgdajcfiaaDoor
open Go Go.RowKit
theorem checks_law8 (X Y : Ex) (s : ByteArray) (w : World) (hX : X.In w) (hY : Y.In w) (hv : VarR w) : Calls Tryd.prog 3 #[X.val, Y.val, .string s] w (BoolRO true w) := by
  have hgx : ∀ W, Below w.heap.size w W → Calls Tryd.prog 4 #[X.val] W (BoolRO X.grt W) := fun W hW => great_anyO X W (hX.below hW)
  have hgy : ∀ W, Below w.heap.size w W → Calls Tryd.prog 4 #[Y.val] W (BoolRO Y.grt W) := fun W hW => great_anyO Y W (hY.below hW)
  cases gx : X.grt
  · rw [gx] at hgx
    cases gy : Y.grt
    · rw [gy] at hgy
      obtain ⟨x1, -, x3⟩ := Ex.grt_not gx
      exact checks_main X Y s (nameO s.data.toList) (X.isB 1) (X.isB 2) (sameB X Y) X.chk X.siz w hgx hgy
        (fun W hW => ptwin8_any X W (hX.below hW) x1) (fun W hW => rtwin8_any X W (hX.below hW) x1)
        (fun W _ => calls_bel (pname8_any s _ rfl W)) (fun W _ => calls_bel (rname8_any s _ rfl W))
        (fun W hW => pcheck_anyO X W (hX.below hW) x3 (hv.below hW)) (fun W hW => rcheck8_any X W (hX.below hW) x1 x3)
        (fun W hW => pnumber_any X W (hX.below hW) x3 (hv.below hW)) (fun W hW => rnumber8_any X W (hX.below hW) x1 x3)
        (fun W hW => ptruth_any X W (hX.below hW) x3 (hv.below hW)) (fun W hW => rtruth8_any X W (hX.below hW) x1 x3)
        (fun W hW => psize8_any X W (hX.below hW) x1) (fun W hW => rsize8_any X W (hX.below hW) x1)
        (fun W hW => psame8_any X Y W (hX.below hW) (hY.below hW)) (fun W hW => rsame8_any X Y W (hX.below hW) (hY.below hW))
        (fun T' he W hW hT => by have := rsame8_any T' X W hT (hX.below hW); rw [sameB_t he] at this; exact this)
    · rw [gy] at hgy
      exact checks_out X Y s false true w hgx hgy (.inr ⟨rfl, rfl⟩)
  · rw [gx] at hgx
    exact checks_out X Y s true _ w hgx hgy (.inl ⟨rfl, trivial⟩)
end Go.Proofs.YtnomccgdajcfiaaDoor

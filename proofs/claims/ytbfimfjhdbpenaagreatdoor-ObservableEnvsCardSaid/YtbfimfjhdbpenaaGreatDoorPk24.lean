/- Joined: OeM, OeC, OeC1, OeC2, OeC3, OeC4, OeD, OeE. -/
import Derived.Test.YtbfimfjhdbpenaaGreatDoorPk22
import Derived.Test.YtbfimfjhdbpenaaGreatDoorPk23
import Derived.Test.YtbfimfjhdbpenaaGreatDoorPk21
import Derived.Maps.OwnSet
import Derived.Maps.OwnOps
import Derived.Deep.RegionHeld3
/- Layer 8: the program's maps of operations. -/
namespace Go.Proofs.YtbfimfjhdbpenaaGreatDoor
open Go Go.RowKit Go.Maps Go.BigFrame
end Go.Proofs.YtbfimfjhdbpenaaGreatDoor
/- Layer 8: the program's evaluation: what it stands on. -/
namespace Go.Proofs.YtbfimfjhdbpenaaGreatDoor
open Go Go.RowKit Go.BigFrame
section
variable {Q : Nat} {day k : Int} {r n : ByteArray} {d : Int} {A : Option Addr} {l c : Nat} {fA : Option Addr} {fl fc : Nat} {cA : Option Addr} {cl cc : Nat}
end
structure Ev.Inv (E : Ev) (W : World) : Prop where
  i : E.In W
  v : VarR W
theorem Ev.Inv.below {E : Ev} {W W' : World} (h : E.Inv W) (hb : Below W.heap.size W W') : E.Inv W' := ⟨h.i.below hb, h.v.below hb⟩
end Go.Proofs.YtbfimfjhdbpenaaGreatDoor
/- Layer 8: the program's evaluation: pair, chosen, both, either, not. -/
namespace Go.Proofs.YtbfimfjhdbpenaaGreatDoor
open Go Go.RowKit Go.Maps Go.BigFrame
end Go.Proofs.YtbfimfjhdbpenaaGreatDoor
/- Layer 8: the program's evaluation: number, truth: the plain ways. -/
namespace Go.Proofs.YtbfimfjhdbpenaaGreatDoor
open Go Go.RowKit Go.Maps Go.BigFrame
end Go.Proofs.YtbfimfjhdbpenaaGreatDoor
/- Layer 8: the program's evaluation: number, truth: the operations. -/
namespace Go.Proofs.YtbfimfjhdbpenaaGreatDoor
open Go Go.RowKit Go.Maps Go.BigFrame
end Go.Proofs.YtbfimfjhdbpenaaGreatDoor
/- Layer 8: the program's evaluation. -/
namespace Go.Proofs.YtbfimfjhdbpenaaGreatDoor
open Go Go.RowKit
end Go.Proofs.YtbfimfjhdbpenaaGreatDoor
/- Layer 8: asked, Value, Holds of the reference; checkEvaluation, Value, Holds of the program: a theorem for each way. -/
namespace Go.Proofs.YtbfimfjhdbpenaaGreatDoor
open Go Go.RowKit Go.BigFrame
end Go.Proofs.YtbfimfjhdbpenaaGreatDoor
/- Layer 8: Value and Holds, both sides. -/
namespace Go.Proofs.YtbfimfjhdbpenaaGreatDoor
open Go Go.RowKit
section
variable (T : Ex) (E : Ev) (day : Int) (w : World) (hin : T.In w) (hE : E.Inv w) (hz : T.siz ≤ 600) (hby : T.byt ≤ 12000) (hsf : ∀ f ∈ E.fs, f.2.2.size ≤ 1048576)
include hin hE hz hby hsf
end
end Go.Proofs.YtbfimfjhdbpenaaGreatDoor

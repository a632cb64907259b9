/- Joined: ObP, ObQ. -/
import Derived.Test.YtnomccgdajcfiaaDoorPk21
import Derived.Test.YtnomccgdajcfiaaDoorPk23
/- Layer 8: fixBefore, pickBefore, CheckEnv of the reference. -/
namespace Go.Proofs.YtnomccgdajcfiaaDoor
open Go Go.RowKit Go.BigFrame
end Go.Proofs.YtnomccgdajcfiaaDoor
/- Layer 8: CheckEnv of the reference. -/
namespace Go.Proofs.YtnomccgdajcfiaaDoor
open Go Go.RowKit Go.BigFrame
theorem calls_bel {P : Program} {f : FuncId} {args : Array Value} {w : World} {v : Value} (h : Calls P f args w fun e w' => e = .returned v ∧ w = w') : Calls P f args w fun e w' => e = .returned v ∧ Below w.heap.size w w' :=
  h.mono fun _ _ ⟨h1, h2⟩ => ⟨h1, h2 ▸ Below.refl _ _⟩
end Go.Proofs.YtnomccgdajcfiaaDoor

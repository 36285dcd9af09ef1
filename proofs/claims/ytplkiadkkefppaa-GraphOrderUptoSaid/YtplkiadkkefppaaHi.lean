/-
  WHAT IS PROVED HERE: what mayHeader, the methods set, branch, state, action, table, key and the forms' fits of the landed ast hand back, by what their callees hand back. Written by gen/hc.py.
-/
import Derived.Test.YtplkiadkkefppaaRows
import Derived.Test.YtplkiadkkefppaaHF
import Derived.WalkKit
import Derived.Lib.Hide
import Derived.WalkSpells
import Derived.WalkLawsBesides
import Derived.Laws.EntriesVeiled
import Derived.Shelf.Abstract
namespace Go.Proofs.Ytplkiadkkefppaa
open Go.RowKit
end Go.Proofs.Ytplkiadkkefppaa

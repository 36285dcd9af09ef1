/-
  WHAT IS PROVED HERE: what set, stmt, transition, block of the landed ast and the literals in them hand back, by what their callees hand back. Written by gen/hc.py.
-/
import Derived.Test.YtplkiadkkefppaaRows
import Derived.Test.YtplkiadkkefppaaHi
import Derived.WalkKit
import Derived.Lib.Hide
import Derived.WalkSpells
import Derived.WalkLawsBesides
import Derived.Laws.EntriesVeiled
import Derived.Shelf.Abstract
namespace Go.Proofs.Ytplkiadkkefppaa
open Go.RowKit
end Go.Proofs.Ytplkiadkkefppaa

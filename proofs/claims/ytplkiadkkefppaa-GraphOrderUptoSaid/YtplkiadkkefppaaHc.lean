/-
  WHAT IS PROVED HERE: what litFits, nameFits, sliceFits, isTarget, isWidth, mayLit, mayField, mayHeader, isAmount of the landed ast hand back. Written by gen/hc.py.
-/
import Derived.Test.YtplkiadkkefppaaRows
import Derived.Test.YtplkiadkkefppaaFG
import Derived.Test.YtplkiadkkefppaaHa
import Derived.Test.YtplkiadkkefppaaPN
import Derived.Test.YtplkiadkkefppaaFf
import Derived.WalkKit
import Derived.Lib.Hide
import Derived.WalkSpells
import Derived.WalkLawsBesides
import Derived.Laws.EntriesVeiled
import Derived.Shelf.Abstract
namespace Go.Proofs.Ytplkiadkkefppaa
open Go.RowKit
def widthB (w : Int) : Bool := decide (1 ≤ w) && decide (w ≤ 128)
end Go.Proofs.Ytplkiadkkefppaa

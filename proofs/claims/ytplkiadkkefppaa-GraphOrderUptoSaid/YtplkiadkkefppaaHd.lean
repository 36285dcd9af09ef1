/-
  WHAT IS PROVED HERE: what isAmount and the fits of the landed ast's forms hand back, by what their callees hand back. Written by gen/hc.py.
-/
import Derived.Test.YtplkiadkkefppaaRows
import Derived.Test.YtplkiadkkefppaaFG
import Derived.WalkKit
import Derived.Lib.Hide
import Derived.WalkSpells
import Derived.WalkLawsBesides
import Derived.Laws.EntriesVeiled
import Derived.Shelf.Abstract
namespace Go.Proofs.Ytplkiadkkefppaa
open Go.RowKit
theorem cellsat_at {V W : World} {z : Ext} {a : Addr} {cs : List Value} (hz : W = plus V z) (h : CellsAt V a cs) : CellsAt W a cs := by rw [hz]; exact h.plus z
end Go.Proofs.Ytplkiadkkefppaa

/-
  WHAT IS PROVED HERE: what ast.each hands back, of slices of these types, with whatever function of no side effect. Written by gen/eqf.py.
-/
import Derived.Test.YtplkiadkkefppaaRows
import Derived.Test.YtplkiadkkefppaaFG
import Derived.WalkKit
import Derived.Lib.Hide
import Derived.WalkSpells
import Derived.WalkLawsBesides
namespace Go.Proofs.Ytplkiadkkefppaa
open Go.RowKit
end Go.Proofs.Ytplkiadkkefppaa

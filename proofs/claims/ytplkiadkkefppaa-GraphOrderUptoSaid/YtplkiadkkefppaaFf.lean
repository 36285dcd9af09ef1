/-
  WHAT IS PROVED HERE: what slices.Equal hands back, of any two slices of strings, fields, numbers or sets that lie in memory and are not too long. Written by gen/eqs.py.
-/
import Derived.Test.YtplkiadkkefppaaRows
import Derived.Test.YtplkiadkkefppaaFG
import Derived.WalkKit
import Derived.Lib.Hide
import Derived.WalkSpells
import Derived.WalkLawsBesides
namespace Go.Proofs.Ytplkiadkkefppaa
open Go.RowKit
def eqSe (a b : Se) : Bool := a.kind == b.kind && eqLt a.v b.v && eqLt a.m b.m
end Go.Proofs.Ytplkiadkkefppaa

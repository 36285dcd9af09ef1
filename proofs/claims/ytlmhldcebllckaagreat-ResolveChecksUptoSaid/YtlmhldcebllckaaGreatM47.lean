/-
  WHAT IS PROVED HERE: a part of the proof (made narrower and merged by program; the parts: Ho HP Ia).
-/
import Derived.Test.YtlmhldcebllckaaGreatRows
import Derived.WalkKit
import Derived.Lib.Hide
import Derived.WalkSpells
import Derived.WalkLawsBesides
import Derived.Laws.EntriesVeiled
import Derived.Shelf.Abstract
import Derived.Test.YtlmhldcebllckaaGreatM33
import Derived.Test.YtlmhldcebllckaaGreatM37
import Derived.Test.YtlmhldcebllckaaGreatM5
import Derived.Test.YtlmhldcebllckaaGreatM6
namespace Go.Proofs.YtlmhldcebllckaaGreat
open Go.RowKit
/-- The deepest of these, and of so much. -/
def Ex.dm (m:Nat):List Ex → Nat
 | []=>m
 | e :: l=>Ex.dm (max m e.dp) l
theorem Ex.dps_dm:∀ (l:List Ex) (m:Nat),Ex.dps (m + 1) l = Ex.dm m l + 1
 | [],m=>by rw [Ex.dps,Ex.dm]
 | e :: l,m=>by
  rw [Ex.dps,Ex.dm]
  have:(if m + 1 < 1 + e.dp then 1 + e.dp else m + 1) = max m e.dp + 1:=by split <;> omega
  rw [this,Ex.dps_dm l]
theorem Ex.dp_dm (e:Ex):e.dp = Ex.dm 0 e.args + 1:=by rw [Ex.dp_eq,show (1:Nat) = 0 + 1 from rfl,Ex.dps_dm]
section
variable {α:Type} {f:α → α → Bool}
end
theorem Ex.dp_pos (e:Ex):1 ≤ e.dp:=by rw [Ex.dp_dm];omega
end Go.Proofs.YtlmhldcebllckaaGreat

/-
  WHAT IS PROVED HERE: what the document's SameExpr and SameExprs of layer 4 hand back, of any expression trees that lie in memory.
-/
import Derived.Test.YtpnaibfefpeikaaRows
import Derived.Test.YtpnaibfefpeikaaSe
import Derived.WalkKit
import Derived.Lib.Hide
import Derived.WalkSpells
import Derived.WalkLawsBesides
namespace Go.Proofs.Ytpnaibfefpeikaa
open Go.RowKit
/-- The same but for Args? -/
def Ex.top (a b : Ex) : Bool := a.op == b.op && (a.lit.w == b.lit.w && (a.lit.h == b.lit.h && a.lit.l == b.lit.l)) && a.head.toList == b.head.toList && a.name.toList == b.name.toList && a.hi == b.hi && a.lo == b.lo
mutual
/-- The same? -/
def Ex.same : Ex → Ex → Bool
  | .mk op lit hd nm h l _ _ args, b => Ex.top (.mk op lit hd nm h l none 0 []) b && Ex.sames args b.args
def Ex.sames : List Ex → List Ex → Bool
  | [], [] => true
  | a :: l, b :: r => a.same b && Ex.sames l r
  | [], _ :: _ => false
  | _ :: _, [] => false
end
theorem Ex.same_eq (a b : Ex) : a.same b = (Ex.top a b && Ex.sames a.args b.args) := by cases a; rw [Ex.same]; rfl
theorem plus_alloc2 (w : World) (y : Ext) (a b : Obj) : ∃ x, ((plus w y).alloc a).alloc b = plus w x := by
  obtain ⟨z, hz⟩ := plus_of_below (((Below.refl (plus w y).heap.size (plus w y)).alloc (Nat.le_refl _) a).alloc (by simp) b)
  rw [hz, plus_plus]
  exact ⟨_, rfl⟩
end Go.Proofs.Ytpnaibfefpeikaa

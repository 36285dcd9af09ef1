/-
  WHAT IS PROVED HERE: what the document's SameExprs, and so SameExpr, of layer 4 hand back, of any expression trees that lie in memory and are not too great.
-/
import Derived.Test.YtpnaibfefpeikaaRows
import Derived.Test.YtpnaibfefpeikaaSh
import Derived.WalkKit
import Derived.Lib.Hide
import Derived.WalkSpells
import Derived.WalkLawsBesides
namespace Go.Proofs.Ytpnaibfefpeikaa
open Go.RowKit
theorem Ex.sames_drop (l r : List Ex) (k : Nat) (x y : Ex) (hx : l[k]? = some x) (hy : r[k]? = some y) : Ex.sames (l.drop k) (r.drop k) = (x.same y && Ex.sames (l.drop (k + 1)) (r.drop (k + 1))) := by
  obtain ⟨h1, rfl⟩ := List.getElem?_eq_some_iff.1 hx
  obtain ⟨h2, rfl⟩ := List.getElem?_eq_some_iff.1 hy
  rw [List.drop_eq_getElem_cons h1, List.drop_eq_getElem_cons h2, Ex.sames]
theorem Ex.sames_length : ∀ l r : List Ex, l.length ≠ r.length → Ex.sames l r = false
  | [], [], h => by simp at h
  | [], _ :: _, _ => by rw [Ex.sames]
  | _ :: _, [], _ => by rw [Ex.sames]
  | a :: l, b :: r, h => by
    rw [Ex.sames, Ex.sames_length l r (by simpa using h), Bool.and_false]
end Go.Proofs.Ytpnaibfefpeikaa

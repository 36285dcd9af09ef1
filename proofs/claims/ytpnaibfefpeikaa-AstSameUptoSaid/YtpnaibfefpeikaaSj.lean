/-
  WHAT IS PROVED HERE: what the document's SameNames, SameFields and SameLits of layer 4 hand back, of any such slices that lie in memory and are not too great. Written by gen/same3.py.
-/
import Derived.Test.YtpnaibfefpeikaaRows
import Derived.Test.YtpnaibfefpeikaaSe
import Derived.WalkKit
import Derived.Lib.Hide
import Derived.WalkSpells
import Derived.WalkLawsBesides
namespace Go.Proofs.Ytpnaibfefpeikaa
open Go.RowKit
/-- The same ones, one by one? -/
def eqAll {α : Type} (f : α → α → Bool) : List α → List α → Bool
  | [], [] => true
  | a :: l, b :: r => f a b && eqAll f l r
  | [], _ :: _ => false
  | _ :: _, [] => false
theorem eqAll_drop {α : Type} (f : α → α → Bool) (l r : List α) (k : Nat) (x y : α) (hx : l[k]? = some x) (hy : r[k]? = some y) : eqAll f (l.drop k) (r.drop k) = (f x y && eqAll f (l.drop (k + 1)) (r.drop (k + 1))) := by
  obtain ⟨h1, rfl⟩ := List.getElem?_eq_some_iff.1 hx
  obtain ⟨h2, rfl⟩ := List.getElem?_eq_some_iff.1 hy
  rw [List.drop_eq_getElem_cons h1, List.drop_eq_getElem_cons h2, eqAll]
theorem eqAll_length {α : Type} (f : α → α → Bool) : ∀ l r : List α, l.length ≠ r.length → eqAll f l r = false
  | [], [], h => by simp at h
  | [], _ :: _, _ => by rw [eqAll]
  | _ :: _, [], _ => by rw [eqAll]
  | a :: l, b :: r, h => by
    rw [eqAll, eqAll_length f l r (by simpa using h), Bool.and_false]
def eqStr (a b : ByteArray) : Bool := a.toList == b.toList
def eqFd (a b : Fd) : Bool := a.name.toList == b.name.toList && a.w == b.w
def eqLt (a b : Lt) : Bool := a.w == b.w && (a.h == b.h && a.l == b.l)
end Go.Proofs.Ytpnaibfefpeikaa

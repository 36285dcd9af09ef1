/-
  WHAT IS PROVED HERE: what the document's SameExpr and SameExprs of layer 4 hand back, of any expression trees that lie in memory. · what the document's SameExprs, and so SameExpr, of layer 4 hand back, of any expression trees that lie in memory and are not too great. · what the document's SameStmts of layer 4 hands back, of any statements that lie in memory and are not too great.
-/
import Derived.Test.YtplkiadkkefppaaRows
import Derived.Test.YtplkiadkkefppaaSE
import Derived.WalkKit
import Derived.Lib.Hide
import Derived.WalkSpells
import Derived.WalkLawsBesides
import Derived.Deep.CutRange
import Derived.Deep.RegionHeld3
namespace Go.Proofs.Ytplkiadkkefppaa
open Go.RowKit
/-- The same but for Args? -/
def Ex.top (a b : Ex) : Bool := a.op == b.op && (a.lit.w == b.lit.w && (a.lit.h == b.lit.h && a.lit.l == b.lit.l)) && a.head.toList == b.head.toList && a.name.toList == b.name.toList && a.hi == b.hi && a.lo == b.lo
mutual
/-- The same? -/
def Ex.same : Ex → Ex → Bool
  | .mk op lit hd nm h l _ _ args, b => Ex.top (.mk op lit hd nm h l none 0 []) b && Ex.sames args b.args
def Ex.sames : List Ex → List Ex → Bool
  | [], [] => true
  | a :: l, b :: r => a.same b && Ex.sames l r
  | [], _ :: _ => false
  | _ :: _, [] => false
end
theorem Ex.same_eq (a b : Ex) : a.same b = (Ex.top a b && Ex.sames a.args b.args) := by cases a; rw [Ex.same]; rfl
theorem plus_alloc2 (w : World) (y : Ext) (a b : Obj) : ∃ x, ((plus w y).alloc a).alloc b = plus w x := by
  obtain ⟨z, hz⟩ := plus_of_below (((Below.refl (plus w y).heap.size (plus w y)).alloc (Nat.le_refl _) a).alloc (by simp) b)
  rw [hz, plus_plus]
  exact ⟨_, rfl⟩
end Go.Proofs.Ytplkiadkkefppaa
namespace Go.Proofs.Ytplkiadkkefppaa
open Go.RowKit
theorem Ex.sames_drop (l r : List Ex) (k : Nat) (x y : Ex) (hx : l[k]? = some x) (hy : r[k]? = some y) : Ex.sames (l.drop k) (r.drop k) = (x.same y && Ex.sames (l.drop (k + 1)) (r.drop (k + 1))) := by
  obtain ⟨h1, rfl⟩ := List.getElem?_eq_some_iff.1 hx
  obtain ⟨h2, rfl⟩ := List.getElem?_eq_some_iff.1 hy
  rw [List.drop_eq_getElem_cons h1, List.drop_eq_getElem_cons h2, Ex.sames]
theorem Ex.sames_length : ∀ l r : List Ex, l.length ≠ r.length → Ex.sames l r = false
  | [], [], h => by simp at h
  | [], _ :: _, _ => by rw [Ex.sames]
  | _ :: _, [], _ => by rw [Ex.sames]
  | a :: l, b :: r, h => by
    rw [Ex.sames, Ex.sames_length l r (by simpa using h), Bool.and_false]
end Go.Proofs.Ytplkiadkkefppaa
namespace Go.Proofs.Ytplkiadkkefppaa
open Go.RowKit
mutual
/-- The same? -/
def St.same : St → St → Bool
  | .mk k hd nm e _ _ thn _ _ els, b => k == b.kind && (hd.toList == b.head.toList && (nm.toList == b.name.toList && (e.same b.e && (St.sames thn b.thn && St.sames els b.els))))
def St.sames : List St → List St → Bool
  | [], [] => true
  | a :: l, b :: r => a.same b && St.sames l r
  | [], _ :: _ => false
  | _ :: _, [] => false
end
theorem St.sames_drop (l r : List St) (k : Nat) (x y : St) (hx : l[k]? = some x) (hy : r[k]? = some y) : St.sames (l.drop k) (r.drop k) = (x.same y && St.sames (l.drop (k + 1)) (r.drop (k + 1))) := by
  obtain ⟨h1, rfl⟩ := List.getElem?_eq_some_iff.1 hx
  obtain ⟨h2, rfl⟩ := List.getElem?_eq_some_iff.1 hy
  rw [List.drop_eq_getElem_cons h1, List.drop_eq_getElem_cons h2, St.sames]
theorem St.sames_length : ∀ l r : List St, l.length ≠ r.length → St.sames l r = false
  | [], [], h => by simp at h
  | [], _ :: _, _ => by rw [St.sames]
  | _ :: _, [], _ => by rw [St.sames]
  | a :: l, b :: r, h => by
    rw [St.sames, St.sames_length l r (by simpa using h), Bool.and_false]
/-- A world that has more than this one. -/
def Ov (W U : World) : Prop := ∃ z, U = plus W z
theorem Ov.start (W : World) (y : Ext) : Ov W (plus W y) := ⟨y, rfl⟩
theorem Ov.drew {W U : World} (h : Ov W U) : Ov W U.drew := by
  obtain ⟨z, rfl⟩ := h
  exact ⟨⟨z.blocks, z.draws + 1⟩, rfl⟩
theorem Ov.alloc {W U : World} (h : Ov W U) (o : Obj) : Ov W (U.alloc o) := by
  obtain ⟨z, rfl⟩ := h
  obtain ⟨y, hy⟩ := plus_of_below ((Below.refl (plus W z).heap.size (plus W z)).alloc (Nat.le_refl _) o)
  exact ⟨_, hy.trans (plus_plus _ _ _)⟩
/-- A world that has more than this one, two blocks with these cells among it. -/
structure Two (W : World) (A B : List Value) (b c : Nat) (V : World) : Prop where
  more : ∃ z, V = plus W z
  a : ∀ j v, A[j]? = some v → V.cell? ⟨b, j, none⟩ = some v
  b : ∀ j v, B[j]? = some v → V.cell? ⟨c, j, none⟩ = some v
theorem two_fwd (W : World) (y : Ext) (A B : List Value) (T : TypeId) : Two W A B (plus W y).heap.size ((plus W y).heap.size + 1) (((plus W y).alloc (.cells A.toArray T)).alloc (.cells B.toArray T)).drew := by
  obtain ⟨z, hz⟩ := plus_alloc2 W y (.cells A.toArray T) (.cells B.toArray T)
  refine ⟨⟨⟨z.blocks, z.draws + 1⟩, by rw [hz]; rfl⟩, fun j v h => ?_, fun j v h => ?_⟩
  · show (((plus W y).alloc (.cells A.toArray T)).alloc (.cells B.toArray T)).cell? _ = _
    rw [cell_old _ _ _ j (by simp), cell_new _ _ T _ j rfl]
    simpa using h
  · show (((plus W y).alloc (.cells A.toArray T)).alloc (.cells B.toArray T)).cell? _ = _
    rw [cell_new _ _ T _ j (by simp)]
    simpa using h
theorem two_rev (W : World) (y : Ext) (A B : List Value) (T : TypeId) : Two W A B ((plus W y).heap.size + 1) (plus W y).heap.size (((plus W y).alloc (.cells B.toArray T)).alloc (.cells A.toArray T)).drew := by
  have h := two_fwd W y B A T
  exact ⟨h.more, h.b, h.a⟩
theorem spot_none {w : World} {a : Addr} {v : Value} (h : w.cell? a = some v) : a.spot = none := by
  obtain ⟨b, o, sp⟩ := a
  cases sp with
  | none => rfl
  | some q =>
    exfalso
    unfold World.cell? at h
    revert h
    simp only
    split <;> simp
theorem RowAt.base {α : Type} {w : World} {C : Nat} {cells : α → List Value} {p : Option Addr} {l : List α} {x : α} {v : Value} (h : RowAt w C cells p l) (hx : l[0]? = some x) (hc : (cells x)[0]? = some v) : ∃ g o, p = some ⟨g, o, none⟩ := by
  obtain ⟨a, ha, hat⟩ := h 0 x hx
  have h1 := hat 0 v hc
  rw [Nat.zero_mul] at h1
  have h2 : w.cell? a = some v := h1
  have h3 := spot_none h2
  obtain ⟨b, o, sp⟩ := a
  simp only at h3
  subst h3
  exact ⟨b, o, ha⟩
theorem add_flat (g o n : Nat) : (⟨g, o, none⟩ : Addr).add n = ⟨g, o + n, none⟩ := by
  unfold Addr.add
  split
  · rename_i h; rw [h]; rfl
  · rfl
end Go.Proofs.Ytplkiadkkefppaa

/-
  WHAT IS PROVED HERE: what SameExpr and sameBlock of the landed ast hand back, of any trees that lie in memory and are not too great. · what Same of the landed ast hands back, of any two programs that lie in memory and are not too great.
-/
import Derived.Test.YtplkiadkkefppaaRows
import Derived.Test.YtplkiadkkefppaaGA
import Derived.Test.YtplkiadkkefppaaFa
import Derived.Test.YtplkiadkkefppaaFb
import Derived.Test.YtplkiadkkefppaaFf
import Derived.WalkKit
import Derived.Lib.Hide
import Derived.WalkSpells
import Derived.WalkLawsBesides
import Derived.Laws.EntriesVeiled
import Derived.Shelf.Abstract
import Derived.Test.YtplkiadkkefppaaSf
namespace Go.Proofs.Ytplkiadkkefppaa
open Go.RowKit
theorem clo1 (V : World) (v : Value) (t : TypeId) : ∃ W, V.alloc (.cells #[v] t) = W ∧ (∃ z, W = plus V z) ∧ W.cell? ⟨V.heap.size, 0, none⟩ = some v :=
  ⟨_, rfl, alloc1_plus V _, cell_new _ _ _ _ _ rfl⟩
theorem clo2 (V : World) (A : Obj) (v : Value) (t : TypeId) : ∃ W, (V.alloc A).alloc (.cells #[v] t) = W ∧ (∃ z, W = plus V z) ∧ W.cell? ⟨V.heap.size + 1, 0, none⟩ = some v :=
  ⟨_, rfl, alloc2_plus V _ _, cell_new _ _ _ _ _ (by simp)⟩
theorem clo3 (V : World) (A B : Obj) (v : Value) (t : TypeId) : ∃ W, ((V.alloc A).alloc B).alloc (.cells #[v] t) = W ∧ (∃ z, W = plus V z) ∧ W.cell? ⟨V.heap.size + 1 + 1, 0, none⟩ = some v := by
  refine ⟨_, rfl, ?_, cell_new _ _ _ _ _ (by simp)⟩
  obtain ⟨x, hx⟩ := alloc2_plus V A B
  rw [hx]
  exact plus_alloc1 V x _
theorem shp_ex (x : Ex) : shp_Expr x.cells := ⟨_, _, _, _, _, _, _, _, _, _, _, rfl⟩
theorem shp_st (x : St) : shp_Stmt x.cells := ⟨_, _, _, _, _, _, _, _, _, _, _, _, _, _, _, _, _, _, _, _, rfl⟩
theorem Ex.sames_eq : ∀ l r : List Ex, Ex.sames l r = eqAll Ex.same l r
  | [], [] => by rw [Ex.sames, eqAll]
  | a :: l, b :: r => by rw [Ex.sames, eqAll, Ex.sames_eq l r]
  | [], _ :: _ => by rw [Ex.sames, eqAll]
  | _ :: _, [] => by rw [Ex.sames, eqAll]
theorem St.sames_eq : ∀ l r : List St, St.sames l r = eqAll St.same l r
  | [], [] => by rw [St.sames, eqAll]
  | a :: l, b :: r => by rw [St.sames, eqAll, St.sames_eq l r]
  | [], _ :: _ => by rw [St.sames, eqAll]
  | _ :: _, [] => by rw [St.sames, eqAll]
theorem St.same_eq (a b : St) : a.same b = (a.kind == b.kind && (a.head.toList == b.head.toList && (a.name.toList == b.name.toList && (a.e.same b.e && (St.sames a.thn b.thn && St.sames a.els b.els))))) := by cases a; rw [St.same]; rfl
theorem St.In.inE {w : World} {s : St} (h : s.In w) : s.e.In w := by obtain ⟨_, _, _, _, e, _, _, _, _, _, _, _, _⟩ := h; exact e
theorem St.In.inThn {w : World} {s : St} (h : s.In w) : s.thnS.In w 14 St.cells (St.In w) := by obtain ⟨_, _, _, _, _, l, c, r, k, _, _, _, _⟩ := h; exact ⟨l, c, r, k⟩
theorem St.In.inEls {w : World} {s : St} (h : s.In w) : s.elsS.In w 14 St.cells (St.In w) := by obtain ⟨_, _, _, _, _, _, _, _, _, l, c, r, k⟩ := h; exact ⟨l, c, r, k⟩
end Go.Proofs.Ytplkiadkkefppaa
namespace Go.Proofs.Ytplkiadkkefppaa
open Go.RowKit
theorem shp_fd (x : Fd) : shp_Field x.cells := ⟨_, _, rfl⟩
theorem shp_hr (x : Hr) : shp_Header x.cells := ⟨_, _, _, _, rfl⟩
theorem shp_se (x : Se) : shp_Set x.cells := ⟨_, _, _, _, _, _, _, rfl⟩
theorem shp_lt (x : Lt) : shp_Lit x.cells := ⟨_, _, _, rfl⟩
theorem shp_ca (x : Ca) : shp_Case x.cells := ⟨_, _, _, _, _, rfl⟩
theorem shp_sa (x : Sa) : shp_State x.cells := ⟨_, _, _, _, _, _, _, _, _, _, _, rfl⟩
theorem shp_ac (x : Ac) : shp_Action x.cells := ⟨_, _, _, _, _, _, _, rfl⟩
theorem shp_ke (x : Ke) : shp_Key x.cells := ⟨_, _, _, _, _, _, _, _, _, _, _, _, rfl⟩
theorem shp_ta (x : Ta) : shp_Table x.cells := ⟨_, _, _, _, _, _, _, _, _, _, _, rfl⟩
def eqHr (a b : Hr) : Bool := eqStr a.name b.name && eqAll eqFd a.fields.l b.fields.l
def eqCa (a b : Ca) : Bool := a.dflt == b.dflt && (eqAll eqSe a.sets.l b.sets.l && eqStr a.to b.to)
def eqKe (a b : Ke) : Bool := a.kind == b.kind && a.e.same b.e
def eqSa (a b : Sa) : Bool := eqStr a.name b.name && (eqAll eqStr a.takes.l b.takes.l && (eqStr a.to b.to && (eqAll Ex.same a.keys.l b.keys.l && eqAll eqCa a.cases.l b.cases.l)))
def eqAc (a b : Ac) : Bool := eqStr a.name b.name && (eqAll eqFd a.params.l b.params.l && St.sames a.body.l b.body.l)
def eqTa (a b : Ta) : Bool := eqStr a.name b.name && (eqAll eqKe a.keys.l b.keys.l && (eqAll eqStr a.actions.l b.actions.l && (eqStr a.dflt.name b.dflt.name && eqAll eqLt a.dflt.args.l b.dflt.args.l)))
def eqPr (a b : Pr) : Bool := eqAll eqHr a.headers.l b.headers.l && (eqAll eqFd a.metas.l b.metas.l && (eqAll eqSa a.states.l b.states.l && (eqAll eqAc a.actions.l b.actions.l && (eqAll eqTa a.tables.l b.tables.l && (St.sames a.control.l b.control.l && eqAll eqStr a.emit.l b.emit.l)))))
theorem len_le {α : Type} (f : α → Nat) (hf : ∀ x, 1 ≤ f x) (L : Sl α) {n : Nat} (h : L.size f ≤ n) : L.l.length ≤ n := Nat.le_trans (length_le_sum f hf L.l) h
theorem one_sz {α : Type} {f : α → Nat} {L : Sl α} {n : Nat} {x : α} (h : L.size f ≤ n) (hx : x ∈ L.l) : f x ≤ n := Nat.le_trans (le_sum_of f L.l x hx) h
theorem strSize_le (L : Sl ByteArray) {n : Nat} (h : L.size strSize ≤ n) : L.l.length ≤ n := len_le strSize strSize_pos L h
theorem lt_sz (L : Sl Lt) {n : Nat} (h : L.size (fun _ => 1) ≤ n) : L.l.length ≤ n := len_le (fun _ => 1) (fun _ => Nat.le_refl _) L h
end Go.Proofs.Ytplkiadkkefppaa

/-
  WHAT IS PROVED HERE: what SameExpr and sameBlock of the landed ast hand back, of any trees that lie in memory and are not too great. · what Same of the landed ast hands back, of any two programs that lie in memory and are not too great.
-/
import Derived.Test.YtlmhldcebllckaaGreatRows
import Derived.Test.YtlmhldcebllckaaGreatGA
import Derived.Test.YtlmhldcebllckaaGreatFa
import Derived.Test.YtlmhldcebllckaaGreatFb
import Derived.Test.YtlmhldcebllckaaGreatFf
import Derived.WalkKit
import Derived.Lib.Hide
import Derived.WalkSpells
import Derived.WalkLawsBesides
import Derived.Laws.EntriesVeiled
import Derived.Shelf.Abstract
import Derived.Test.YtlmhldcebllckaaGreatSf
namespace Go.Proofs.YtlmhldcebllckaaGreat
open Go.RowKit
theorem clo1 (V : World) (v : Value) (t : TypeId) : ∃ W, V.alloc (.cells #[v] t) = W ∧ (∃ z, W = plus V z) ∧ W.cell? ⟨V.heap.size, 0, none⟩ = some v :=
  ⟨_, rfl, alloc1_plus V _, cell_new _ _ _ _ _ rfl⟩
theorem clo2 (V : World) (A : Obj) (v : Value) (t : TypeId) : ∃ W, (V.alloc A).alloc (.cells #[v] t) = W ∧ (∃ z, W = plus V z) ∧ W.cell? ⟨V.heap.size + 1, 0, none⟩ = some v :=
  ⟨_, rfl, alloc2_plus V _ _, cell_new _ _ _ _ _ (by simp)⟩
theorem clo3 (V : World) (A B : Obj) (v : Value) (t : TypeId) : ∃ W, ((V.alloc A).alloc B).alloc (.cells #[v] t) = W ∧ (∃ z, W = plus V z) ∧ W.cell? ⟨V.heap.size + 1 + 1, 0, none⟩ = some v := by
  refine ⟨_, rfl, ?_, cell_new _ _ _ _ _ (by simp)⟩
  obtain ⟨x, hx⟩ := alloc2_plus V A B
  rw [hx]
  exact plus_alloc1 V x _
theorem shp_ex (x : Ex) : shp_Expr x.cells := ⟨_, _, _, _, _, _, _, _, _, _, _, rfl⟩
theorem shp_st (x : St) : shp_Stmt x.cells := ⟨_, _, _, _, _, _, _, _, _, _, _, _, _, _, _, _, _, _, _, _, rfl⟩
theorem Ex.sames_eq : ∀ l r : List Ex, Ex.sames l r = eqAll Ex.same l r
  | [], [] => by rw [Ex.sames, eqAll]
  | a :: l, b :: r => by rw [Ex.sames, eqAll, Ex.sames_eq l r]
  | [], _ :: _ => by rw [Ex.sames, eqAll]
  | _ :: _, [] => by rw [Ex.sames, eqAll]
theorem St.sames_eq : ∀ l r : List St, St.sames l r = eqAll St.same l r
  | [], [] => by rw [St.sames, eqAll]
  | a :: l, b :: r => by rw [St.sames, eqAll, St.sames_eq l r]
  | [], _ :: _ => by rw [St.sames, eqAll]
  | _ :: _, [] => by rw [St.sames, eqAll]
theorem St.same_eq (a b : St) : a.same b = (a.kind == b.kind && (a.head.toList == b.head.toList && (a.name.toList == b.name.toList && (a.e.same b.e && (St.sames a.thn b.thn && St.sames a.els b.els))))) := by cases a; rw [St.same]; rfl
def fv_expr (c : Nat) : Value := .func (.func 159) #[] #[.pointer (some ⟨c, 0, none⟩)]
theorem same1 : ∀ (a b : Ex) (w : World) (c : Nat), a.In w → b.In w → a.wt ≤ 1048576 → w.cell? ⟨c, 0, none⟩ = some (fv_expr c) → Kp Tryz.prog w 159 #[a.val, b.val, .pointer (some ⟨c, 0, none⟩)] (.bool (a.same b)) := by
  intro a
  induction a using Ex.ind with
  | _ a ih =>
  intro b w c ha hb wa hc
  have h1 := ha
  have h2 := hb
  obtain ⟨_, _, _, _, _, _, _, l1, c1, r1, k1⟩ := h1
  obtain ⟨_, _, _, _, _, _, _, l2, c2, r2, k2⟩ := h2
  have e1 := Ex.wt_eq a
  have hl : a.args.length ≤ 1048576 := by have := length_le_sum Ex.wt Ex.wt_pos a.args; omega
  have hE := eqf_Expr Ex.cells shp_ex Ex.same 159 #[.pointer (some ⟨c, 0, none⟩)] (Ex.In w) w ⟨a.p, a.cap, a.args⟩ ⟨b.p, b.cap, b.args⟩ ⟨l1, c1, r1, k1⟩ ⟨l2, c2, r2, k2⟩ hl (enters_of Tryz.func159 (by kernel_rfl) rfl)
    (fun x hx y hy => ih x hx y w c (k1 x hx) (k2 y hy) (Nat.le_trans (le_sum_of Ex.wt a.args x hx) (by omega)) hc)
  refine (expr1_of a.op a.lit.w a.lit.h a.lit.l a.head a.name a.hi a.lo a.p a.args.length a.cap b.op b.lit.w b.lit.h b.lit.l b.head b.name b.hi b.lo b.p b.args.length b.cap c _ w hc hE).eqv ?_
  simp only [Ex.same_eq, Ex.top, Ex.sames_eq, Bool.and_assoc]
set_option maxRecDepth 100000 in
set_option maxHeartbeats 8000000 in
theorem ast_sameExpr (a b : Ex) (w : World) (ha : a.In w) (hb : b.In w) (wa : a.wt ≤ 1048576) : Kp Tryz.prog w 141 #[a.val, b.val] (.bool (a.same b)) := by
  intro y0
  have ha := ha.plus y0
  have hb := hb.plus y0
  obtain ⟨V, hV⟩ : ∃ V, plus w y0 = V := ⟨_, rfl⟩
  rw [hV] at ha hb ⊢
  clear hV
  have hq := fun (W : World) (c : Nat) (z : Ext) (hz : W = plus V z) (hc : W.cell? ⟨c, 0, none⟩ = some (fv_expr c)) => calls_self (same1 a b W c (hz ▸ ha.plus z) (hz ▸ hb.plus z) wa hc)
  obtain ⟨S, hS⟩ : ∃ S, a.same b = S := ⟨_, rfl⟩
  rw [hS] at hq ⊢
  clear hS ha hb wa
  obtain ⟨op, ⟨lw, lh, ll⟩, hd, nm, eh, el, p, cap, args⟩ := a
  obtain ⟨op2, ⟨lw2, lh2, ll2⟩, hd2, nm2, eh2, el2, p2, cap2, args2⟩ := b
  have hq : ∀ (W : World) (c : Nat) (z : Ext), W = plus V z → W.cell? ⟨c, 0, none⟩ = some (fv_expr c) → Calls Tryz.prog 159 #[.agg #[.int .u8 op, .int .i64 lw, .int .u64 lh, .int .u64 ll, .string hd, .string nm, .int .i64 eh, .int .i64 el, .slice p args.length cap], .agg #[.int .u8 op2, .int .i64 lw2, .int .u64 lh2, .int .u64 ll2, .string hd2, .string nm2, .int .i64 eh2, .int .i64 el2, .slice p2 args2.length cap2], .pointer (some ⟨c, 0, none⟩)] W fun e w' => e = .returned (.bool S) ∧ ∃ x, w' = plus W x := hq
  show Calls Tryz.prog 141 #[.agg #[.int .u8 op, .int .i64 lw, .int .u64 lh, .int .u64 ll, .string hd, .string nm, .int .i64 eh, .int .i64 el, .slice p args.length cap], .agg #[.int .u8 op2, .int .i64 lw2, .int .u64 lh2, .int .u64 ll2, .string hd2, .string nm2, .int .i64 eh2, .int .i64 el2, .slice p2 args2.length cap2]] V _
  generalize args.length = n1 at hq ⊢
  generalize args2.length = n2 at hq ⊢
  have hq' := Lib.hid hq
  clear hq
  have hmf : ∀ (fn : Fn) (first cap : Array Value) (w : World), (Instr.makeFunc fn first cap).run Tryz.prog w = .ok (.func fn first cap) w := fun _ _ _ _ => rfl
  go_enter Tryz.func141, Tryz.ntmps141
  go_wp2_with fail
  obtain ⟨W, hW, ⟨z, hz⟩, hc⟩ := clo3 V _ _ _ _
  rw [hW]
  have hz' := Lib.hid hz
  refine (hq'.out W _ z hz hc).mono ?_
  clear hW hz hc
  rintro r w' ⟨rfl, x, rfl⟩
  go_wp2
  go_ret
  exact ⟨rfl, by rw [hz'.out, plus_plus]; exact ⟨_, rfl⟩⟩
theorem St.In.inE {w : World} {s : St} (h : s.In w) : s.e.In w := by obtain ⟨_, _, _, _, e, _, _, _, _, _, _, _, _⟩ := h; exact e
theorem St.In.inThn {w : World} {s : St} (h : s.In w) : s.thnS.In w 14 St.cells (St.In w) := by obtain ⟨_, _, _, _, _, l, c, r, k, _, _, _, _⟩ := h; exact ⟨l, c, r, k⟩
theorem St.In.inEls {w : World} {s : St} (h : s.In w) : s.elsS.In w 14 St.cells (St.In w) := by obtain ⟨_, _, _, _, _, _, _, _, _, l, c, r, k⟩ := h; exact ⟨l, c, r, k⟩
end Go.Proofs.YtlmhldcebllckaaGreat
namespace Go.Proofs.YtlmhldcebllckaaGreat
open Go.RowKit
theorem shp_fd (x : Fd) : shp_Field x.cells := ⟨_, _, rfl⟩
theorem shp_hr (x : Hr) : shp_Header x.cells := ⟨_, _, _, _, rfl⟩
theorem shp_se (x : Se) : shp_Set x.cells := ⟨_, _, _, _, _, _, _, rfl⟩
theorem shp_lt (x : Lt) : shp_Lit x.cells := ⟨_, _, _, rfl⟩
theorem shp_ca (x : Ca) : shp_Case x.cells := ⟨_, _, _, _, _, rfl⟩
theorem shp_sa (x : Sa) : shp_State x.cells := ⟨_, _, _, _, _, _, _, _, _, _, _, rfl⟩
theorem shp_ac (x : Ac) : shp_Action x.cells := ⟨_, _, _, _, _, _, _, rfl⟩
theorem shp_ke (x : Ke) : shp_Key x.cells := ⟨_, _, _, _, _, _, _, _, _, _, _, _, rfl⟩
theorem shp_ta (x : Ta) : shp_Table x.cells := ⟨_, _, _, _, _, _, _, _, _, _, _, rfl⟩
def eqHr (a b : Hr) : Bool := eqStr a.name b.name && eqAll eqFd a.fields.l b.fields.l
def eqCa (a b : Ca) : Bool := a.dflt == b.dflt && (eqAll eqSe a.sets.l b.sets.l && eqStr a.to b.to)
def eqKe (a b : Ke) : Bool := a.kind == b.kind && a.e.same b.e
def eqSa (a b : Sa) : Bool := eqStr a.name b.name && (eqAll eqStr a.takes.l b.takes.l && (eqStr a.to b.to && (eqAll Ex.same a.keys.l b.keys.l && eqAll eqCa a.cases.l b.cases.l)))
def eqAc (a b : Ac) : Bool := eqStr a.name b.name && (eqAll eqFd a.params.l b.params.l && St.sames a.body.l b.body.l)
def eqTa (a b : Ta) : Bool := eqStr a.name b.name && (eqAll eqKe a.keys.l b.keys.l && (eqAll eqStr a.actions.l b.actions.l && (eqStr a.dflt.name b.dflt.name && eqAll eqLt a.dflt.args.l b.dflt.args.l)))
def eqPr (a b : Pr) : Bool := eqAll eqHr a.headers.l b.headers.l && (eqAll eqFd a.metas.l b.metas.l && (eqAll eqSa a.states.l b.states.l && (eqAll eqAc a.actions.l b.actions.l && (eqAll eqTa a.tables.l b.tables.l && (St.sames a.control.l b.control.l && eqAll eqStr a.emit.l b.emit.l)))))
theorem len_le {α : Type} (f : α → Nat) (hf : ∀ x, 1 ≤ f x) (L : Sl α) {n : Nat} (h : L.size f ≤ n) : L.l.length ≤ n := Nat.le_trans (length_le_sum f hf L.l) h
theorem one_sz {α : Type} {f : α → Nat} {L : Sl α} {n : Nat} {x : α} (h : L.size f ≤ n) (hx : x ∈ L.l) : f x ≤ n := Nat.le_trans (le_sum_of f L.l x hx) h
theorem strSize_le (L : Sl ByteArray) {n : Nat} (h : L.size strSize ≤ n) : L.l.length ≤ n := len_le strSize strSize_pos L h
theorem lt_sz (L : Sl Lt) {n : Nat} (h : L.size (fun _ => 1) ≤ n) : L.l.length ≤ n := len_le (fun _ => 1) (fun _ => Nat.le_refl _) L h
end Go.Proofs.YtlmhldcebllckaaGreat

/-
  WHAT IS PROVED HERE: the law AstSame answers true, of any two programs and any expression that lie in memory and are not too great.
-/
import Derived.Test.YtpnaibfefpeikaaRows
import Derived.Test.YtpnaibfefpeikaaIb
namespace Go.Proofs.Ytpnaibfefpeikaa
open Go.RowKit
theorem sum_sz (a : Pr) (q : Option Addr) (cap : Nat) (x : ByteArray) : (a.withX q cap x).sz = a.sz + strSize x := by
  simp only [Pr.sz, Pr.withX, Sl.size, List.map_append, List.sum_append, List.map_cons, List.map_nil, List.sum_cons, List.sum_nil]
  omega
theorem withX_in {w : World} {a : Pr} (h : a.In w) {q : Option Addr} {cap : Nat} {x : ByteArray} (hx : x.size ≤ maxLen) (h1 : a.emit.l.length + 1 ≤ cap) (h2 : cap ≤ maxLen) (h3 : RowAt w 1 strCells q (a.emit.l ++ [x])) : (a.withX q cap x).In w :=
  ⟨h.headers, h.metas, h.states, h.actions, h.tables, h.control, ⟨by simpa [Pr.withX] using h1, h2, h3, fun y hy => by
    simp only [Pr.withX, List.mem_append, List.mem_singleton] at hy
    rcases hy with hy | rfl
    · exact h.emit.kids y hy
    · exact hx⟩⟩
theorem withX_cells (a : Pr) (q : Option Addr) (cap : Nat) (x : ByteArray) : Value.agg (a.withX q cap x).cells.toArray = .agg #[a.headers.v, a.metas.v, a.states.v, a.actions.v, a.tables.v, a.control.v, .slice q (a.emit.l.length + 1) cap] := by
  simp [Pr.withX, Pr.cells, Sl.v]
theorem law_in (a b : Pr) (e : Ex) (w : World) (ha : a.In w) (hb : b.In w) (he : e.In w) (za : a.sz ≤ 1048576) (zb : b.sz ≤ 1048576) (ze : e.wt ≤ 1048576)
    (hkn : ∀ V : World, Calls Try.prog 6 #[] V fun e w' => e = .returned (.bool true) ∧ ∃ x, w' = plus V x) :
    Kp Try.prog w 3 #[.agg a.cells.toArray, .agg b.cells.toArray, .agg e.cells.toArray] (.bool true) := by
  have haa := ast_same a a w ha ha za
  rw [eqPr_refl] at haa
  have hee := ast_sameExpr e e w he he ze
  rw [Ex.same_refl] at hee
  have hba := ast_same b a w hb ha zb
  rw [eqPr_symm] at hba
  have hpI := prI_le a za
  have hlen : a.emit.l.length ≤ 1048576 := strSize_le _ (by unfold Pr.sz at za; omega)
  refine law_of a.headers.p a.headers.l.length a.headers.cap a.metas.p a.metas.l.length a.metas.cap a.states.p a.states.l.length a.states.cap a.actions.p a.actions.l.length a.actions.cap a.tables.p a.tables.l.length a.tables.cap a.control.p a.control.l.length a.control.cap a.emit.p a.emit.l.length a.emit.cap
    b.headers.p b.headers.l.length b.headers.cap b.metas.p b.metas.l.length b.metas.cap b.states.p b.states.l.length b.states.cap b.actions.p b.actions.l.length b.actions.cap b.tables.p b.tables.l.length b.tables.cap b.control.p b.control.l.length b.control.cap b.emit.p b.emit.l.length b.emit.cap
    e.op e.lit.w e.lit.h e.lit.l e.head e.name e.hi e.lo e.p e.args.length e.cap _ _ _ (eqPr a b) (Ex.may 16 e) (prB a) (prB b) e.dp (prI a : Int) (prI b : Int) ((prI a + 1 : Nat) : Int) a.emit.l w
    (Kp.ofPure fun y => ref_great a (plus w y) (ha.plus y) za) (Kp.ofPure fun y => ref_great b (plus w y) (hb.plus y) zb) (Kp.ofPure fun y => great_expr e (plus w y) (he.plus y) ze)
    haa hee (ast_same a b w ha hb za) hba (ast_depth e w he ze) (ast_mayExpr e w he ze) (ast_may a w ha za) (ast_may b w hb zb) (ast_items a w ha za) (ast_items b w hb zb)
    ⟨Ex.dp_pos e, Ex.may_dp 16 e⟩ (fun h => ⟨prB_same h, by rw [prI_same h]⟩) (by rw [wr_in _ (by omega)]; omega) rfl hlen ha.emit.row hkn ?_
  intro hga W z q cap hW h1 h2 h3
  have hz : ¬ 6000 < a.sz := of_decide_eq_false hga
  have hc : (a.withX q cap ⟨#[120]⟩).In W := withX_in (hW ▸ ha.plus z) (by decide) h1 h2 h3
  have hs := ast_same a (a.withX q cap ⟨#[120]⟩) W (hW ▸ ha.plus z) hc za
  have hi := ast_items (a.withX q cap ⟨#[120]⟩) W hc (by rw [sum_sz]; have : strSize ⟨#[120]⟩ = 2 := rfl; omega)
  rw [eqPr_withX, withX_cells] at hs
  rw [prI_withX, withX_cells] at hi
  exact ⟨hs, hi⟩
end Go.Proofs.Ytpnaibfefpeikaa

/-
  WHAT IS PROVED HERE: what Same of the landed ast hands back, of any two programs that lie in memory and are not too great.
-/
import Derived.Test.YtpnaibfefpeikaaRows
import Derived.Test.YtpnaibfefpeikaaGa
import Derived.Test.YtpnaibfefpeikaaGb
import Derived.Test.YtpnaibfefpeikaaGd
import Derived.Test.YtpnaibfefpeikaaGe
import Derived.Test.YtpnaibfefpeikaaSf
namespace Go.Proofs.Ytpnaibfefpeikaa
open Go.RowKit
theorem shp_fd (x : Fd) : shp_Field x.cells := ⟨_, _, rfl⟩
theorem shp_hr (x : Hr) : shp_Header x.cells := ⟨_, _, _, _, rfl⟩
theorem shp_se (x : Se) : shp_Set x.cells := ⟨_, _, _, _, _, _, _, rfl⟩
theorem shp_lt (x : Lt) : shp_Lit x.cells := ⟨_, _, _, rfl⟩
theorem shp_ca (x : Ca) : shp_Case x.cells := ⟨_, _, _, _, _, rfl⟩
theorem shp_sa (x : Sa) : shp_State x.cells := ⟨_, _, _, _, _, _, _, _, _, _, _, rfl⟩
theorem shp_ac (x : Ac) : shp_Action x.cells := ⟨_, _, _, _, _, _, _, rfl⟩
theorem shp_ke (x : Ke) : shp_Key x.cells := ⟨_, _, _, _, _, _, _, _, _, _, _, _, rfl⟩
theorem shp_ta (x : Ta) : shp_Table x.cells := ⟨_, _, _, _, _, _, _, _, _, _, _, rfl⟩
def eqHr (a b : Hr) : Bool := eqStr a.name b.name && eqAll eqFd a.fields.l b.fields.l
def eqCa (a b : Ca) : Bool := a.dflt == b.dflt && (eqAll eqSe a.sets.l b.sets.l && eqStr a.to b.to)
def eqKe (a b : Ke) : Bool := a.kind == b.kind && a.e.same b.e
def eqSa (a b : Sa) : Bool := eqStr a.name b.name && (eqAll eqStr a.takes.l b.takes.l && (eqStr a.to b.to && (eqAll Ex.same a.keys.l b.keys.l && eqAll eqCa a.cases.l b.cases.l)))
def eqAc (a b : Ac) : Bool := eqStr a.name b.name && (eqAll eqFd a.params.l b.params.l && St.sames a.body.l b.body.l)
def eqTa (a b : Ta) : Bool := eqStr a.name b.name && (eqAll eqKe a.keys.l b.keys.l && (eqAll eqStr a.actions.l b.actions.l && (eqStr a.dflt.name b.dflt.name && eqAll eqLt a.dflt.args.l b.dflt.args.l)))
def eqPr (a b : Pr) : Bool := eqAll eqHr a.headers.l b.headers.l && (eqAll eqFd a.metas.l b.metas.l && (eqAll eqSa a.states.l b.states.l && (eqAll eqAc a.actions.l b.actions.l && (eqAll eqTa a.tables.l b.tables.l && (St.sames a.control.l b.control.l && eqAll eqStr a.emit.l b.emit.l)))))
theorem len_le {α : Type} (f : α → Nat) (hf : ∀ x, 1 ≤ f x) (L : Sl α) {n : Nat} (h : L.size f ≤ n) : L.l.length ≤ n := Nat.le_trans (length_le_sum f hf L.l) h
theorem ast_hdr (a b : Hr) (w : World) (ha : a.In w) (hb : b.In w) (s : a.sz ≤ 1048576) : Kp Try.prog w 18 #[.agg a.cells.toArray, .agg b.cells.toArray] (.bool (eqHr a b)) :=
  hdr_of _ _ _ _ _ _ _ _ _ w (eqs_Field a.fields b.fields _ _ w ha.fields hb.fields (len_le Fd.sz Fd.sz_pos _ (by unfold Hr.sz at s; omega)))
theorem ast_case (a b : Ca) (w : World) (ha : a.In w) (hb : b.In w) (s : a.sets.l.length ≤ 1048576) : Kp Try.prog w 49 #[.agg a.cells.toArray, .agg b.cells.toArray] (.bool (eqCa a b)) :=
  case_of _ _ _ _ _ _ _ _ _ _ _ w (eqs_Set a.sets b.sets _ _ w ha.sets hb.sets s)
theorem ast_key (a b : Ke) (w : World) (ha : a.In w) (hb : b.In w) (s : a.e.wt ≤ 1048576) : Kp Try.prog w 51 #[.agg a.cells.toArray, .agg b.cells.toArray] (.bool (eqKe a b)) :=
  key_of _ _ _ _ _ _ _ _ _ _ _ _ _ _ _ _ _ _ _ _ _ _ _ _ _ w (ast_sameExpr a.e b.e w ha.e hb.e s)
theorem one_sz {α : Type} {f : α → Nat} {L : Sl α} {n : Nat} {x : α} (h : L.size f ≤ n) (hx : x ∈ L.l) : f x ≤ n := Nat.le_trans (le_sum_of f L.l x hx) h
theorem strSize_le (L : Sl ByteArray) {n : Nat} (h : L.size strSize ≤ n) : L.l.length ≤ n := len_le strSize strSize_pos L h
theorem lt_sz (L : Sl Lt) {n : Nat} (h : L.size (fun _ => 1) ≤ n) : L.l.length ≤ n := len_le (fun _ => 1) (fun _ => Nat.le_refl _) L h
theorem ast_state (a b : Sa) (w : World) (ha : a.In w) (hb : b.In w) (s : a.sz ≤ 1048576) : Kp Try.prog w 21 #[.agg a.cells.toArray, .agg b.cells.toArray] (.bool (eqSa a b)) := by
  unfold Sa.sz at s
  have hk : a.keys.size Ex.wt ≤ 1048576 := by omega
  have hc : a.cases.size Ca.sz ≤ 1048576 := by omega
  exact state_of _ _ _ _ _ _ _ _ _ _ _ _ _ _ _ _ _ _ _ _ _ _ _ _ _ w (eqs_string a.takes b.takes _ _ w ha.takes hb.takes (strSize_le _ (by omega)))
    (eqf_Expr Ex.cells shp_ex Ex.same 8 #[] _ w a.keys b.keys ha.keys hb.keys (len_le Ex.wt Ex.wt_pos _ hk) (enters_of Try.func8 (by kernel_rfl) rfl) (fun x hx y hy => ast_sameExpr x y w (ha.keys.kids x hx) (hb.keys.kids y hy) (one_sz hk hx)))
    (eqf_Case Ca.cells shp_ca eqCa 49 #[] _ w a.cases b.cases ha.cases hb.cases (len_le Ca.sz sz_pos_ca _ hc) (enters_of Try.func49 (by kernel_rfl) rfl) (fun x hx y hy => ast_case x y w (ha.cases.kids x hx) (hb.cases.kids y hy) (by have h1 := one_sz hc hx; have h2 := len_le Se.sz (fun _ => Nat.le_refl _) x.sets (Nat.le_refl _); unfold Ca.sz at h1; omega)))
theorem ast_action (a b : Ac) (w : World) (ha : a.In w) (hb : b.In w) (s : a.sz ≤ 1048576) : Kp Try.prog w 23 #[.agg a.cells.toArray, .agg b.cells.toArray] (.bool (eqAc a b)) := by
  unfold Ac.sz at s
  exact action_of _ _ _ _ _ _ _ _ _ _ _ _ _ _ _ _ w (eqs_Field a.params b.params _ _ w ha.params hb.params (len_le Fd.sz Fd.sz_pos _ (by omega))) (ast_sameBlock a.body b.body w ha.body hb.body (by omega))
theorem ast_table (a b : Ta) (w : World) (ha : a.In w) (hb : b.In w) (s : a.sz ≤ 1048576) : Kp Try.prog w 25 #[.agg a.cells.toArray, .agg b.cells.toArray] (.bool (eqTa a b)) := by
  unfold Ta.sz Cl.sz at s
  have hk : a.keys.size Ke.sz ≤ 1048576 := by omega
  exact table_of _ _ _ _ _ _ _ _ _ _ _ _ _ _ _ _ _ _ _ _ _ _ _ _ _ w
    (eqf_Key Ke.cells shp_ke eqKe 51 #[] _ w a.keys b.keys ha.keys hb.keys (len_le Ke.sz sz_pos_ke _ hk) (enters_of Try.func51 (by kernel_rfl) rfl) (fun x hx y hy => ast_key x y w (ha.keys.kids x hx) (hb.keys.kids y hy) (by have := one_sz hk hx; unfold Ke.sz at this; omega)))
    (eqs_string a.actions b.actions _ _ w ha.actions hb.actions (strSize_le _ (by omega)))
    (eqs_Lit a.dflt.args b.dflt.args _ _ w ha.dflt.args hb.dflt.args (lt_sz _ (by omega)))
theorem ast_same (a b : Pr) (w : World) (ha : a.In w) (hb : b.In w) (s : a.sz ≤ 1048576) : Kp Try.prog w 7 #[.agg a.cells.toArray, .agg b.cells.toArray] (.bool (eqPr a b)) := by
  unfold Pr.sz at s
  have h0 : a.headers.size Hr.sz ≤ 1048576 := by omega
  have h2 : a.states.size Sa.sz ≤ 1048576 := by omega
  have h3 : a.actions.size Ac.sz ≤ 1048576 := by omega
  have h4 : a.tables.size Ta.sz ≤ 1048576 := by omega
  exact same_of _ _ _ _ _ _ _ _ _ _ _ _ _ _ _ _ _ _ _ _ _ _ _ _ _ _ _ _ _ _ _ _ _ _ _ _ _ _ _ _ _ _ _ _ _ _ _ _ _ w
    (eqf_Header Hr.cells shp_hr eqHr 18 #[] _ w a.headers b.headers ha.headers hb.headers (len_le Hr.sz sz_pos_hr _ h0) (enters_of Try.func18 (by kernel_rfl) rfl) (fun x hx y hy => ast_hdr x y w (ha.headers.kids x hx) (hb.headers.kids y hy) (one_sz h0 hx)))
    (eqs_Field a.metas b.metas _ _ w ha.metas hb.metas (len_le Fd.sz Fd.sz_pos _ (by omega)))
    (eqf_State Sa.cells shp_sa eqSa 21 #[] _ w a.states b.states ha.states hb.states (len_le Sa.sz sz_pos_sa _ h2) (enters_of Try.func21 (by kernel_rfl) rfl) (fun x hx y hy => ast_state x y w (ha.states.kids x hx) (hb.states.kids y hy) (one_sz h2 hx)))
    (eqf_Action Ac.cells shp_ac eqAc 23 #[] _ w a.actions b.actions ha.actions hb.actions (len_le Ac.sz sz_pos_ac _ h3) (enters_of Try.func23 (by kernel_rfl) rfl) (fun x hx y hy => ast_action x y w (ha.actions.kids x hx) (hb.actions.kids y hy) (one_sz h3 hx)))
    (eqf_Table Ta.cells shp_ta eqTa 25 #[] _ w a.tables b.tables ha.tables hb.tables (len_le Ta.sz sz_pos_ta _ h4) (enters_of Try.func25 (by kernel_rfl) rfl) (fun x hx y hy => ast_table x y w (ha.tables.kids x hx) (hb.tables.kids y hy) (one_sz h4 hx)))
    (ast_sameBlock a.control b.control w ha.control hb.control (by omega))
    (eqs_string a.emit b.emit _ _ w ha.emit hb.emit (strSize_le _ (by omega)))
end Go.Proofs.Ytpnaibfefpeikaa

/-
  WHAT IS PROVED HERE: what SameExpr and sameBlock of the landed ast hand back, of any trees that lie in memory and are not too great. · what Same of the landed ast hands back, of any two programs that lie in memory and are not too great.
-/
import Derived.Test.YtddpmfilkhegmaaGreatRows
import Derived.Test.YtddpmfilkhegmaaGreatGA
import Derived.Test.YtddpmfilkhegmaaGreatFa
import Derived.Test.YtddpmfilkhegmaaGreatFb
import Derived.Test.YtddpmfilkhegmaaGreatFf
import Derived.WalkKit
import Derived.Lib.Hide
import Derived.WalkSpells
import Derived.WalkLawsBesides
import Derived.Laws.EntriesVeiled
import Derived.Shelf.Abstract
import Derived.Test.YtddpmfilkhegmaaGreatSf
namespace Go.Proofs.YtddpmfilkhegmaaGreat
open Go.RowKit
theorem clo1 (V : World) (v : Value) (t : TypeId) : ∃ W, V.alloc (.cells #[v] t) = W ∧ (∃ z, W = plus V z) ∧ W.cell? ⟨V.heap.size, 0, none⟩ = some v :=
  ⟨_, rfl, alloc1_plus V _, cell_new _ _ _ _ _ rfl⟩
theorem clo2 (V : World) (A : Obj) (v : Value) (t : TypeId) : ∃ W, (V.alloc A).alloc (.cells #[v] t) = W ∧ (∃ z, W = plus V z) ∧ W.cell? ⟨V.heap.size + 1, 0, none⟩ = some v :=
  ⟨_, rfl, alloc2_plus V _ _, cell_new _ _ _ _ _ (by simp)⟩
theorem clo3 (V : World) (A B : Obj) (v : Value) (t : TypeId) : ∃ W, ((V.alloc A).alloc B).alloc (.cells #[v] t) = W ∧ (∃ z, W = plus V z) ∧ W.cell? ⟨V.heap.size + 1 + 1, 0, none⟩ = some v := by
  refine ⟨_, rfl, ?_, cell_new _ _ _ _ _ (by simp)⟩
  obtain ⟨x, hx⟩ := alloc2_plus V A B
  rw [hx]
  exact plus_alloc1 V x _
theorem shp_ex (x : Ex) : shp_Expr x.cells := ⟨_, _, _, _, _, _, _, _, _, _, _, rfl⟩
theorem shp_st (x : St) : shp_Stmt x.cells := ⟨_, _, _, _, _, _, _, _, _, _, _, _, _, _, _, _, _, _, _, _, rfl⟩
theorem Ex.sames_eq : ∀ l r : List Ex, Ex.sames l r = eqAll Ex.same l r
  | [], [] => by rw [Ex.sames, eqAll]
  | a :: l, b :: r => by rw [Ex.sames, eqAll, Ex.sames_eq l r]
  | [], _ :: _ => by rw [Ex.sames, eqAll]
  | _ :: _, [] => by rw [Ex.sames, eqAll]
theorem St.sames_eq : ∀ l r : List St, St.sames l r = eqAll St.same l r
  | [], [] => by rw [St.sames, eqAll]
  | a :: l, b :: r => by rw [St.sames, eqAll, St.sames_eq l r]
  | [], _ :: _ => by rw [St.sames, eqAll]
  | _ :: _, [] => by rw [St.sames, eqAll]
theorem St.same_eq (a b : St) : a.same b = (a.kind == b.kind && (a.head.toList == b.head.toList && (a.name.toList == b.name.toList && (a.e.same b.e && (St.sames a.thn b.thn && St.sames a.els b.els))))) := by cases a; rw [St.same]; rfl
def fv_expr (c : Nat) : Value := .func (.func 65) #[] #[.pointer (some ⟨c, 0, none⟩)]
def fv_stmt (c : Nat) : Value := .func (.func 103) #[] #[.pointer (some ⟨c, 0, none⟩)]
theorem same1 : ∀ (a b : Ex) (w : World) (c : Nat), a.In w → b.In w → a.wt ≤ 1048576 → w.cell? ⟨c, 0, none⟩ = some (fv_expr c) → Kp Tryz.prog w 65 #[a.val, b.val, .pointer (some ⟨c, 0, none⟩)] (.bool (a.same b)) := by
  intro a
  induction a using Ex.ind with
  | _ a ih =>
  intro b w c ha hb wa hc
  have h1 := ha
  have h2 := hb
  obtain ⟨_, _, _, _, _, _, _, l1, c1, r1, k1⟩ := h1
  obtain ⟨_, _, _, _, _, _, _, l2, c2, r2, k2⟩ := h2
  have e1 := Ex.wt_eq a
  have hl : a.args.length ≤ 1048576 := by have := length_le_sum Ex.wt Ex.wt_pos a.args; omega
  have hE := eqf_Expr Ex.cells shp_ex Ex.same 65 #[.pointer (some ⟨c, 0, none⟩)] (Ex.In w) w ⟨a.p, a.cap, a.args⟩ ⟨b.p, b.cap, b.args⟩ ⟨l1, c1, r1, k1⟩ ⟨l2, c2, r2, k2⟩ hl (enters_of Tryz.func65 (by kernel_rfl) rfl)
    (fun x hx y hy => ih x hx y w c (k1 x hx) (k2 y hy) (Nat.le_trans (le_sum_of Ex.wt a.args x hx) (by omega)) hc)
  refine (expr1_of a.op a.lit.w a.lit.h a.lit.l a.head a.name a.hi a.lo a.p a.args.length a.cap b.op b.lit.w b.lit.h b.lit.l b.head b.name b.hi b.lo b.p b.args.length b.cap c _ w hc hE).eqv ?_
  simp only [Ex.same_eq, Ex.top, Ex.sames_eq, Bool.and_assoc]
set_option maxRecDepth 100000 in
set_option maxHeartbeats 8000000 in
theorem ast_sameExpr (a b : Ex) (w : World) (ha : a.In w) (hb : b.In w) (wa : a.wt ≤ 1048576) : Kp Tryz.prog w 17 #[a.val, b.val] (.bool (a.same b)) := by
  intro y0
  have ha := ha.plus y0
  have hb := hb.plus y0
  obtain ⟨V, hV⟩ : ∃ V, plus w y0 = V := ⟨_, rfl⟩
  rw [hV] at ha hb ⊢
  clear hV
  have hq := fun (W : World) (c : Nat) (z : Ext) (hz : W = plus V z) (hc : W.cell? ⟨c, 0, none⟩ = some (fv_expr c)) => calls_self (same1 a b W c (hz ▸ ha.plus z) (hz ▸ hb.plus z) wa hc)
  obtain ⟨S, hS⟩ : ∃ S, a.same b = S := ⟨_, rfl⟩
  rw [hS] at hq ⊢
  clear hS ha hb wa
  obtain ⟨op, ⟨lw, lh, ll⟩, hd, nm, eh, el, p, cap, args⟩ := a
  obtain ⟨op2, ⟨lw2, lh2, ll2⟩, hd2, nm2, eh2, el2, p2, cap2, args2⟩ := b
  have hq : ∀ (W : World) (c : Nat) (z : Ext), W = plus V z → W.cell? ⟨c, 0, none⟩ = some (fv_expr c) → Calls Tryz.prog 65 #[.agg #[.int .u8 op, .int .i64 lw, .int .u64 lh, .int .u64 ll, .string hd, .string nm, .int .i64 eh, .int .i64 el, .slice p args.length cap], .agg #[.int .u8 op2, .int .i64 lw2, .int .u64 lh2, .int .u64 ll2, .string hd2, .string nm2, .int .i64 eh2, .int .i64 el2, .slice p2 args2.length cap2], .pointer (some ⟨c, 0, none⟩)] W fun e w' => e = .returned (.bool S) ∧ ∃ x, w' = plus W x := hq
  show Calls Tryz.prog 17 #[.agg #[.int .u8 op, .int .i64 lw, .int .u64 lh, .int .u64 ll, .string hd, .string nm, .int .i64 eh, .int .i64 el, .slice p args.length cap], .agg #[.int .u8 op2, .int .i64 lw2, .int .u64 lh2, .int .u64 ll2, .string hd2, .string nm2, .int .i64 eh2, .int .i64 el2, .slice p2 args2.length cap2]] V _
  generalize args.length = n1 at hq ⊢
  generalize args2.length = n2 at hq ⊢
  have hq' := Lib.hid hq
  clear hq
  have hmf : ∀ (fn : Fn) (first cap : Array Value) (w : World), (Instr.makeFunc fn first cap).run Tryz.prog w = .ok (.func fn first cap) w := fun _ _ _ _ => rfl
  go_enter Tryz.func17, Tryz.ntmps17
  go_wp2_with fail
  obtain ⟨W, hW, ⟨z, hz⟩, hc⟩ := clo3 V _ _ _ _
  rw [hW]
  have hz' := Lib.hid hz
  refine (hq'.out W _ z hz hc).mono ?_
  clear hW hz hc
  rintro r w' ⟨rfl, x, rfl⟩
  go_wp2
  go_ret
  exact ⟨rfl, by rw [hz'.out, plus_plus]; exact ⟨_, rfl⟩⟩
theorem St.In.inE {w : World} {s : St} (h : s.In w) : s.e.In w := by obtain ⟨_, _, _, _, e, _, _, _, _, _, _, _, _⟩ := h; exact e
theorem St.In.inThn {w : World} {s : St} (h : s.In w) : s.thnS.In w 14 St.cells (St.In w) := by obtain ⟨_, _, _, _, _, l, c, r, k, _, _, _, _⟩ := h; exact ⟨l, c, r, k⟩
theorem St.In.inEls {w : World} {s : St} (h : s.In w) : s.elsS.In w 14 St.cells (St.In w) := by obtain ⟨_, _, _, _, _, _, _, _, _, l, c, r, k⟩ := h; exact ⟨l, c, r, k⟩
def SameAt (s : St) : Prop := ∀ (b : St) (w : World) (c : Nat), s.In w → b.In w → s.sz ≤ 1048576 → w.cell? ⟨c, 0, none⟩ = some (fv_stmt c) → Kp Tryz.prog w 103 #[.agg s.cells.toArray, .agg b.cells.toArray, .pointer (some ⟨c, 0, none⟩)] (.bool (s.same b))
theorem stmts_eqf (A B : Sl St) (w : World) (c : Nat) (ih : ∀ x ∈ A.l, SameAt x) (hA : A.In w 14 St.cells (St.In w)) (hB : B.In w 14 St.cells (St.In w)) (bA : A.size St.sz ≤ 1048576) (hc : w.cell? ⟨c, 0, none⟩ = some (fv_stmt c)) :
    Kp Tryz.prog w 104 #[A.v, B.v, fv_stmt c] (.bool (St.sames A.l B.l)) := by
  have hl : A.l.length ≤ 1048576 := Nat.le_trans (length_le_sum St.sz St.sz_pos A.l) bA
  rw [St.sames_eq]
  exact eqf_Stmt St.cells shp_st St.same 103 #[.pointer (some ⟨c, 0, none⟩)] (St.In w) w A B hA hB hl (enters_of Tryz.func103 (by kernel_rfl) rfl)
    (fun x hx y hy => ih x hx y w c (hA.kids x hx) (hB.kids y hy) (Nat.le_trans (le_sum_of St.sz A.l x hx) bA) hc)
theorem same_stmt1 : ∀ s : St, SameAt s := by
  intro s
  induction s using St.ind with
  | _ s ih1 ih2 =>
  intro b w c ha hb wa hc
  have h1 := ha
  have h2 := hb
  have e1 := St.sz_eq s
  have hE := ast_sameExpr s.e b.e w (St.In.inE h1) (St.In.inE h2) (by omega)
  have hT := stmts_eqf s.thnS b.thnS w c ih1 (St.In.inThn h1) (St.In.inThn h2) (show (s.thn.map St.sz).sum ≤ _ by omega) hc
  have hL := stmts_eqf s.elsS b.elsS w c ih2 (St.In.inEls h1) (St.In.inEls h2) (show (s.els.map St.sz).sum ≤ _ by omega) hc
  refine (stmt1_of s.kind s.head s.name s.e.op s.e.lit.w s.e.lit.h s.e.lit.l s.e.head s.e.name s.e.hi s.e.lo s.e.p s.e.args.length s.e.cap s.p s.thn.length s.cap s.q s.els.length s.cbp b.kind b.head b.name b.e.op b.e.lit.w b.e.lit.h b.e.lit.l b.e.head b.e.name b.e.hi b.e.lo b.e.p b.e.args.length b.e.cap b.p b.thn.length b.cap b.q b.els.length b.cbp c _ _ _ w hc hE hT hL).eqv ?_
  rw [St.same_eq]
  rfl
set_option maxRecDepth 100000 in
set_option maxHeartbeats 8000000 in
theorem ast_sameBlock (A B : Sl St) (w : World) (hA : A.In w 14 St.cells (St.In w)) (hB : B.In w 14 St.cells (St.In w)) (bA : A.size St.sz ≤ 1048576) : Kp Tryz.prog w 58 #[A.v, B.v] (.bool (St.sames A.l B.l)) := by
  intro y0
  have hA := hA.plus (fun _ a => a.plus y0) y0
  have hB := hB.plus (fun _ a => a.plus y0) y0
  obtain ⟨V, hV⟩ : ∃ V, plus w y0 = V := ⟨_, rfl⟩
  rw [hV] at hA hB ⊢
  clear hV
  have hq := fun (W : World) (c : Nat) (z : Ext) (hz : W = plus V z) (hc : W.cell? ⟨c, 0, none⟩ = some (fv_stmt c)) => calls_self (stmts_eqf A B W c (fun x _ => same_stmt1 x) (hz ▸ hA.plus (fun _ a => a.plus z) z) (hz ▸ hB.plus (fun _ a => a.plus z) z) bA hc)
  obtain ⟨S, hS⟩ : ∃ S, St.sames A.l B.l = S := ⟨_, rfl⟩
  rw [hS] at hq ⊢
  obtain ⟨p, cap, l⟩ := A
  obtain ⟨q, cbp, r⟩ := B
  simp only [Sl.v, fv_stmt] at hq ⊢
  generalize l.length = n1 at hq ⊢
  generalize r.length = n2 at hq ⊢
  clear hS hA hB bA
  have hq' := Lib.hid hq
  clear hq
  have hmf : ∀ (fn : Fn) (first cap : Array Value) (w : World), (Instr.makeFunc fn first cap).run Tryz.prog w = .ok (.func fn first cap) w := fun _ _ _ _ => rfl
  go_enter Tryz.func58, Tryz.ntmps58
  go_wp2_with fail
  obtain ⟨W, hW, ⟨z, hz⟩, hc⟩ := clo1 V _ _
  rw [hW]
  have hz' := Lib.hid hz
  refine (hq'.out W _ z hz hc).mono ?_
  clear hW hz hc
  rintro r w' ⟨rfl, x, rfl⟩
  go_wp2
  go_ret
  exact ⟨rfl, by rw [hz'.out, plus_plus]; exact ⟨_, rfl⟩⟩
end Go.Proofs.YtddpmfilkhegmaaGreat
namespace Go.Proofs.YtddpmfilkhegmaaGreat
open Go.RowKit
theorem shp_fd (x : Fd) : shp_Field x.cells := ⟨_, _, rfl⟩
theorem shp_hr (x : Hr) : shp_Header x.cells := ⟨_, _, _, _, rfl⟩
theorem shp_se (x : Se) : shp_Set x.cells := ⟨_, _, _, _, _, _, _, rfl⟩
theorem shp_lt (x : Lt) : shp_Lit x.cells := ⟨_, _, _, rfl⟩
theorem shp_ca (x : Ca) : shp_Case x.cells := ⟨_, _, _, _, _, rfl⟩
theorem shp_sa (x : Sa) : shp_State x.cells := ⟨_, _, _, _, _, _, _, _, _, _, _, rfl⟩
theorem shp_ac (x : Ac) : shp_Action x.cells := ⟨_, _, _, _, _, _, _, rfl⟩
theorem shp_ke (x : Ke) : shp_Key x.cells := ⟨_, _, _, _, _, _, _, _, _, _, _, _, rfl⟩
theorem shp_ta (x : Ta) : shp_Table x.cells := ⟨_, _, _, _, _, _, _, _, _, _, _, rfl⟩
def eqHr (a b : Hr) : Bool := eqStr a.name b.name && eqAll eqFd a.fields.l b.fields.l
def eqCa (a b : Ca) : Bool := a.dflt == b.dflt && (eqAll eqSe a.sets.l b.sets.l && eqStr a.to b.to)
def eqKe (a b : Ke) : Bool := a.kind == b.kind && a.e.same b.e
def eqSa (a b : Sa) : Bool := eqStr a.name b.name && (eqAll eqStr a.takes.l b.takes.l && (eqStr a.to b.to && (eqAll Ex.same a.keys.l b.keys.l && eqAll eqCa a.cases.l b.cases.l)))
def eqAc (a b : Ac) : Bool := eqStr a.name b.name && (eqAll eqFd a.params.l b.params.l && St.sames a.body.l b.body.l)
def eqTa (a b : Ta) : Bool := eqStr a.name b.name && (eqAll eqKe a.keys.l b.keys.l && (eqAll eqStr a.actions.l b.actions.l && (eqStr a.dflt.name b.dflt.name && eqAll eqLt a.dflt.args.l b.dflt.args.l)))
def eqPr (a b : Pr) : Bool := eqAll eqHr a.headers.l b.headers.l && (eqAll eqFd a.metas.l b.metas.l && (eqAll eqSa a.states.l b.states.l && (eqAll eqAc a.actions.l b.actions.l && (eqAll eqTa a.tables.l b.tables.l && (St.sames a.control.l b.control.l && eqAll eqStr a.emit.l b.emit.l)))))
theorem len_le {α : Type} (f : α → Nat) (hf : ∀ x, 1 ≤ f x) (L : Sl α) {n : Nat} (h : L.size f ≤ n) : L.l.length ≤ n := Nat.le_trans (length_le_sum f hf L.l) h
theorem ast_hdr (a b : Hr) (w : World) (ha : a.In w) (hb : b.In w) (s : a.sz ≤ 1048576) : Kp Tryz.prog w 50 #[.agg a.cells.toArray, .agg b.cells.toArray] (.bool (eqHr a b)) :=
  hdr_of _ _ _ _ _ _ _ _ _ w (eqs_Field a.fields b.fields _ _ w ha.fields hb.fields (len_le Fd.sz Fd.sz_pos _ (by unfold Hr.sz at s; omega)))
theorem ast_case (a b : Ca) (w : World) (ha : a.In w) (hb : b.In w) (s : a.sets.l.length ≤ 1048576) : Kp Tryz.prog w 99 #[.agg a.cells.toArray, .agg b.cells.toArray] (.bool (eqCa a b)) :=
  case_of _ _ _ _ _ _ _ _ _ _ _ w (eqs_Set a.sets b.sets _ _ w ha.sets hb.sets s)
theorem ast_key (a b : Ke) (w : World) (ha : a.In w) (hb : b.In w) (s : a.e.wt ≤ 1048576) : Kp Tryz.prog w 101 #[.agg a.cells.toArray, .agg b.cells.toArray] (.bool (eqKe a b)) :=
  key_of _ _ _ _ _ _ _ _ _ _ _ _ _ _ _ _ _ _ _ _ _ _ _ _ _ w (ast_sameExpr a.e b.e w ha.e hb.e s)
theorem one_sz {α : Type} {f : α → Nat} {L : Sl α} {n : Nat} {x : α} (h : L.size f ≤ n) (hx : x ∈ L.l) : f x ≤ n := Nat.le_trans (le_sum_of f L.l x hx) h
theorem strSize_le (L : Sl ByteArray) {n : Nat} (h : L.size strSize ≤ n) : L.l.length ≤ n := len_le strSize strSize_pos L h
theorem lt_sz (L : Sl Lt) {n : Nat} (h : L.size (fun _ => 1) ≤ n) : L.l.length ≤ n := len_le (fun _ => 1) (fun _ => Nat.le_refl _) L h
theorem ast_state (a b : Sa) (w : World) (ha : a.In w) (hb : b.In w) (s : a.sz ≤ 1048576) : Kp Tryz.prog w 53 #[.agg a.cells.toArray, .agg b.cells.toArray] (.bool (eqSa a b)) := by
  unfold Sa.sz at s
  have hk : a.keys.size Ex.wt ≤ 1048576 := by omega
  have hc : a.cases.size Ca.sz ≤ 1048576 := by omega
  exact state_of _ _ _ _ _ _ _ _ _ _ _ _ _ _ _ _ _ _ _ _ _ _ _ _ _ w (eqs_string a.takes b.takes _ _ w ha.takes hb.takes (strSize_le _ (by omega)))
    (eqf_Expr Ex.cells shp_ex Ex.same 17 #[] _ w a.keys b.keys ha.keys hb.keys (len_le Ex.wt Ex.wt_pos _ hk) (enters_of Tryz.func17 (by kernel_rfl) rfl) (fun x hx y hy => ast_sameExpr x y w (ha.keys.kids x hx) (hb.keys.kids y hy) (one_sz hk hx)))
    (eqf_Case Ca.cells shp_ca eqCa 99 #[] _ w a.cases b.cases ha.cases hb.cases (len_le Ca.sz sz_pos_ca _ hc) (enters_of Tryz.func99 (by kernel_rfl) rfl) (fun x hx y hy => ast_case x y w (ha.cases.kids x hx) (hb.cases.kids y hy) (by have h1 := one_sz hc hx; have h2 := len_le Se.sz (fun _ => Nat.le_refl _) x.sets (Nat.le_refl _); unfold Ca.sz at h1; omega)))
theorem ast_action (a b : Ac) (w : World) (ha : a.In w) (hb : b.In w) (s : a.sz ≤ 1048576) : Kp Tryz.prog w 55 #[.agg a.cells.toArray, .agg b.cells.toArray] (.bool (eqAc a b)) := by
  unfold Ac.sz at s
  exact action_of _ _ _ _ _ _ _ _ _ _ _ _ _ _ _ _ w (eqs_Field a.params b.params _ _ w ha.params hb.params (len_le Fd.sz Fd.sz_pos _ (by omega))) (ast_sameBlock a.body b.body w ha.body hb.body (by omega))
theorem ast_table (a b : Ta) (w : World) (ha : a.In w) (hb : b.In w) (s : a.sz ≤ 1048576) : Kp Tryz.prog w 57 #[.agg a.cells.toArray, .agg b.cells.toArray] (.bool (eqTa a b)) := by
  unfold Ta.sz Cl.sz at s
  have hk : a.keys.size Ke.sz ≤ 1048576 := by omega
  exact table_of _ _ _ _ _ _ _ _ _ _ _ _ _ _ _ _ _ _ _ _ _ _ _ _ _ w
    (eqf_Key Ke.cells shp_ke eqKe 101 #[] _ w a.keys b.keys ha.keys hb.keys (len_le Ke.sz sz_pos_ke _ hk) (enters_of Tryz.func101 (by kernel_rfl) rfl) (fun x hx y hy => ast_key x y w (ha.keys.kids x hx) (hb.keys.kids y hy) (by have := one_sz hk hx; unfold Ke.sz at this; omega)))
    (eqs_string a.actions b.actions _ _ w ha.actions hb.actions (strSize_le _ (by omega)))
    (eqs_Lit a.dflt.args b.dflt.args _ _ w ha.dflt.args hb.dflt.args (lt_sz _ (by omega)))
theorem ast_same (a b : Pr) (w : World) (ha : a.In w) (hb : b.In w) (s : a.sz ≤ 1048576) : Kp Tryz.prog w 15 #[.agg a.cells.toArray, .agg b.cells.toArray] (.bool (eqPr a b)) := by
  unfold Pr.sz at s
  have h0 : a.headers.size Hr.sz ≤ 1048576 := by omega
  have h2 : a.states.size Sa.sz ≤ 1048576 := by omega
  have h3 : a.actions.size Ac.sz ≤ 1048576 := by omega
  have h4 : a.tables.size Ta.sz ≤ 1048576 := by omega
  exact same_of _ _ _ _ _ _ _ _ _ _ _ _ _ _ _ _ _ _ _ _ _ _ _ _ _ _ _ _ _ _ _ _ _ _ _ _ _ _ _ _ _ _ _ _ _ _ _ _ _ w
    (eqf_Header Hr.cells shp_hr eqHr 50 #[] _ w a.headers b.headers ha.headers hb.headers (len_le Hr.sz sz_pos_hr _ h0) (enters_of Tryz.func50 (by kernel_rfl) rfl) (fun x hx y hy => ast_hdr x y w (ha.headers.kids x hx) (hb.headers.kids y hy) (one_sz h0 hx)))
    (eqs_Field a.metas b.metas _ _ w ha.metas hb.metas (len_le Fd.sz Fd.sz_pos _ (by omega)))
    (eqf_State Sa.cells shp_sa eqSa 53 #[] _ w a.states b.states ha.states hb.states (len_le Sa.sz sz_pos_sa _ h2) (enters_of Tryz.func53 (by kernel_rfl) rfl) (fun x hx y hy => ast_state x y w (ha.states.kids x hx) (hb.states.kids y hy) (one_sz h2 hx)))
    (eqf_Action Ac.cells shp_ac eqAc 55 #[] _ w a.actions b.actions ha.actions hb.actions (len_le Ac.sz sz_pos_ac _ h3) (enters_of Tryz.func55 (by kernel_rfl) rfl) (fun x hx y hy => ast_action x y w (ha.actions.kids x hx) (hb.actions.kids y hy) (one_sz h3 hx)))
    (eqf_Table Ta.cells shp_ta eqTa 57 #[] _ w a.tables b.tables ha.tables hb.tables (len_le Ta.sz sz_pos_ta _ h4) (enters_of Tryz.func57 (by kernel_rfl) rfl) (fun x hx y hy => ast_table x y w (ha.tables.kids x hx) (hb.tables.kids y hy) (one_sz h4 hx)))
    (ast_sameBlock a.control b.control w ha.control hb.control (by omega))
    (eqs_string a.emit b.emit _ _ w ha.emit hb.emit (strSize_le _ (by omega)))
end Go.Proofs.YtddpmfilkhegmaaGreat

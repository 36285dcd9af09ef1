/-
  WHAT IS PROVED HERE: a part of the proof (made narrower and merged by program; the parts: Pn Po Pq).
-/
import Derived.Test.YtbelaghcmgefaaaGreatDoorRows
import Derived.WalkKit
import Derived.Lib.Hide
import Derived.WalkSpells
import Derived.WalkLawsBesides
import Derived.Test.YtbelaghcmgefaaaGreatDoorM32
import Derived.Test.YtbelaghcmgefaaaGreatDoorM33
import Derived.Test.YtbelaghcmgefaaaGreatDoorM37
import Derived.Test.YtbelaghcmgefaaaGreatDoorM36
namespace Go.Proofs.YtbelaghcmgefaaaGreatDoor
open Go.RowKit
theorem Wm.to {w0:World} {b m1 m2:Nat} {e1 e2:Array MapEntry} {g:FuncId} {x:Value} {T T':List UInt8} {d:Int} (h:Wm w0 b m1 m2 e1 e2 g x T d) (e:T = T'):Wm w0 b m1 m2 e1 e2 g x T' d:=e ▸ h
theorem add_nought (a:Addr):a.add (0 * 9) = a:=by cases a;simp [Addr.add]
section
variable {w0:World} {b m1 m2:Nat}
theorem wr_lit (t:Lt) (d:Int) (hT:Tab w0) (h:t.Ok):Wm w0 b m1 m2 (esG 19) (esK 3) 40 (.agg #[.int .i64 t.w,.int .u64 t.h,.int .u64 t.l]) t.tx d :=
 wr_lit_of w0 b m1 m2 (esG 19) (esK 3) d t.w t.h t.l (itoaB t.w) (numS t.n) (fun _=>itoa_kp hT t.w h.w) (by rw [Lt.nv_eq h];exact Kp.all (num_dec t.n (Lt.n_lt h)))
set_option maxHeartbeats 2000000 in
theorem wr_ex (hT:Tab w0) (d:Nat) (hd:d ≤ 500) (e:Ex):∀ n,Ex.may n e = true → e.In w0 → Wm w0 b m1 m2 (esG 19) (esK 3) 22 (.agg e.cells.toArray) e.tx (d:Int) ∧ Wm w0 b m1 m2 (esG 19) (esK 3) 42 (.agg e.cells.toArray) e.at (d:Int):=by
 induction e using Ex.ind with
 | _ e ih =>
 intro n hm hi
 obtain ⟨m,_,h1,h2,_,_,_,_,_,hk⟩:=may_parts hm
 have kids:=In_kids hi
 have hll:=In_lit hi
 have hhl:=In_hi hi
 have row:RowAt w0 9 Ex.cells e.p e.args:=by cases hi;assumption
 have main:Wm w0 b m1 m2 (esG 19) (esK 3) 22 (.agg e.cells.toArray) e.tx (d:Int):=by
  rcases ex_cases hm with ha | ⟨k1,k2,a,ha,tx⟩ | ⟨k1,a,ha,tx⟩ | ⟨k1,k2,a,b',ha,tx⟩
  ·have tx:e.tx = leafL e.op e.lit e.head e.name:=by rw [Ex.tx_eq,ha];rfl
   rw [tx]
   unfold leafL Ex.cells
   rcases leaf_ops hm ha with k | k | k | k | k | k <;> rw [k]
   ·exact (wr_expr_lit w0 b m1 m2 (esG 19) (esK 3) d hd _ _ _ _ _ _ _ _ _ _ _ (wr_lit e.lit (d:Int) hT hll)).to (by simp)
   ·exact (wr_expr_field w0 b m1 m2 (esG 19) (esK 3) d hd _ _ _ _ _ _ _ _ _ _).to (by simp)
   ·exact (wr_expr_meta w0 b m1 m2 (esG 19) (esK 3) d hd _ _ _ _ _ _ _ _ _ _).to (by simp)
   ·exact (wr_expr_param w0 b m1 m2 (esG 19) (esK 3) d hd _ _ _ _ _ _ _ _ _ _).to (by simp)
   ·exact (wr_expr_port w0 b m1 m2 (esG 19) (esK 3) d hd _ _ _ _ _ _ _ _ _ _).to (by simp)
   ·exact (wr_expr_valid w0 b m1 m2 (esG 19) (esK 3) d hd _ _ _ _ _ _ _ _ _ _).to (by simp)
  ·obtain ⟨pa,hp,hc⟩:=row 0 a (by rw [ha];rfl)
   rw [add_nought] at hc
   have hA:=(ih a (by rw [ha];simp) m (hk a (by rw [ha];simp)) (kids a (by rw [ha];simp))).2
   have hs:=wr_signed_one w0 b m1 m2 (esK 3) (d:Int) e.op e.lit.w e.lit.h e.lit.l e.head e.name e.hi e.lo e.cap pa _ _ _ _ _ _ _ _ _ _ _ hc _ hA (by omega) h2 (by omega)
   rw [tx]
   unfold Ex.cells
   rw [ha,hp]
   exact wr_expr_signed w0 b m1 m2 (esG 19) (esK 3) d hd _ _ _ _ _ _ _ _ _ _ _ _ hs (by omega) (by omega)
  ·obtain ⟨pa,hp,hc⟩:=row 0 a (by rw [ha];rfl)
   rw [add_nought] at hc
   have hA:=(ih a (by rw [ha];simp) m (hk a (by rw [ha];simp)) (kids a (by rw [ha];simp))).2
   rw [tx]
   unfold Ex.cells
   rw [ha,hp,k1]
   exact wr_expr_slice w0 hT b m1 m2 (esG 19) (esK 3) (d:Int) _ _ _ _ _ _ _ _ pa _ _ _ _ _ _ _ _ _ _ _ hc _ hA hhl.1 hhl.2
  ·obtain ⟨pa,hp,hc⟩:=row 0 a (by rw [ha];rfl)
   obtain ⟨pb,hp',hc'⟩:=row 1 b' (by rw [ha];rfl)
   rw [add_nought] at hc
   obtain rfl:pa = pb:=Option.some.inj (hp.symm.trans hp')
   have hA:=(ih a (by rw [ha];simp) m (hk a (by rw [ha];simp)) (kids a (by rw [ha];simp))).2
   have hB:=(ih b' (by rw [ha];simp) m (hk b' (by rw [ha];simp)) (kids b' (by rw [ha];simp))).2
   have hs:=wr_signed_two w0 b m1 m2 (esK 3) (d:Int) e.op e.lit.w e.lit.h e.lit.l e.head e.name e.hi e.lo e.cap pa _ _ _ _ _ _ _ _ _ _ _ _ _ _ _ _ _ _ _ _ _ _ hc _ hA hc' _ hB (by omega) h2 (by omega)
   rw [tx]
   unfold Ex.cells
   rw [ha,hp]
   exact (wr_expr_signed w0 b m1 m2 (esG 19) (esK 3) d hd _ _ _ _ _ _ _ _ _ _ _ _ hs (by omega) (by omega)).to (by simp)
 refine ⟨main,?_⟩
 unfold Ex.cells at main ⊢
 by_cases ha:e.args = []
 ·rw [at_leaf ha]
  rw [ha] at main ⊢
  exact wr_atom_leaf w0 b m1 m2 (esG 19) (esK 3) d hd _ _ _ _ _ _ _ _ _ _ _ main
 ·rw [at_kids ha]
  exact wr_atom_kids w0 b m1 m2 (esG 19) (esK 3) d hd _ _ _ _ _ _ _ _ _ _ _ _ main (List.length_pos_iff.2 ha)
theorem wr_fd (hT:Tab w0) (d:Int) (x:Fd) (h:x.In w0):Wm w0 b m1 m2 (esG 19) (esK 3) 112 (.agg x.cells.toArray) x.tx d:=wr_param w0 hT b m1 m2 (esG 19) (esK 3) d x.name x.w h.w
theorem wr_fdln (hT:Tab w0) (d:Nat) (hd:d ≤ 500) (x:Fd) (h:x.In w0):Wm w0 b m1 m2 (esG 19) (esK 3) 66 (.agg x.cells.toArray) (Fd.ln d x) (d:Int):=wr_field_of w0 b m1 m2 (esG 19) (esK 3) d (by omega) x.name x.w _ (wr_fd hT (d:Int) x h)
theorem wr_fields (hT:Tab w0) (d:Nat) (hd:d ≤ 400) (L:Sl Fd) (h:L.In w0 2 Fd.cells (Fd.In w0)) (hl:L.l.length ≤ 1048576):Wc w0 b m1 m2 (esG 19) (esK 3) 65 #[.pointer (some ⟨b,0,none⟩),L.v,.func (.func 66) #[.pointer (some ⟨b,0,none⟩)] #[]] (blkB Fd.ln d L.l) (d:Int) (d:Int) :=
 fun t v hw hlen=>pblock_Field Fd.cells shp_fd (Fd.ln (d + 1)) 66 (Fd.In w0) w0 b m1 m2 (esG 19) (esK 3) d (by omega) L h hl (enters_of Tryz.func66 (by kernel_rfl) rfl) (fun x hx=>wr_fdln hT (d + 1) (by omega) x (h.kids x hx)) t v hw hlen
theorem wr_hr (hT:Tab w0) (x:Hr) (h:x.In w0) (hl:x.fields.l.length ≤ 1048576):Wm w0 b m1 m2 (esG 19) (esK 3) 63 (.agg x.cells.toArray) x.tx ((0:Nat):Int) :=
 (wr_header_of w0 b m1 m2 (esG 19) (esK 3) 0 (by omega) x.name _ _ _ _ (wr_fields hT 0 (by omega) x.fields h.fields hl)).to (by unfold Hr.tx;simp [padB])
theorem wr_se (hT:Tab w0) (d:Nat) (hd:d ≤ 500) (x:Se) (hb:seB x = true) (h:x.In w0):Wm w0 b m1 m2 (esG 19) (esK 3) 169 (.agg x.cells.toArray) x.tx (d:Int):=by
 unfold Se.cells
 rcases se_parts hb with ⟨k,_⟩ | ⟨k,_⟩ | ⟨k,_⟩
 ·rw [se_tx1 k,k]
  exact wr_set_any w0 b m1 m2 (esG 19) (esK 3) d hd _ _ _ _ _ _
 ·rw [se_tx2 k,k]
  exact wr_set_one w0 b m1 m2 (esG 19) (esK 3) d hd _ _ _ _ _ _ _ (wr_lit x.v (d:Int) hT h.v)
 ·rw [se_tx3 k,k]
  exact wr_set_mask w0 b m1 m2 (esG 19) (esK 3) d hd _ _ _ _ _ _ _ _ (wr_lit x.v (d:Int) hT h.v) (wr_lit x.m (d:Int) hT h.m)
theorem wr_ca (hT:Tab w0) (d:Nat) (hd:d ≤ 500) (n:Int) (x:Ca) (hb:caB n x = true) (h:x.In w0) (hl:x.sets.l.length ≤ 1048576):Wm w0 b m1 m2 (esG 19) (esK 3) 152 (.agg x.cells.toArray) (Ca.ln d x) (d:Int):=by
 unfold caB at hb
 simp only [Bool.and_eq_true] at hb
 unfold Ca.cells Ca.ln
 cases hd':x.dflt with
 | true=>exact (wr_branch_default w0 b m1 m2 (esG 19) (esK 3) d hd _ _ _ _).to (by simp)
 | false =>
  have hS:Wc w0 b m1 m2 (esG 19) (esK 3) 168 #[.pointer (some ⟨b,0,none⟩),x.sets.v,.func (.func 169) #[.pointer (some ⟨b,0,none⟩)] #[]] (rowB Se.tx x.sets.l) (d:Int) (d:Int) :=
   fun t v hw hlen=>prow_Set Se.cells shp_se Se.tx 169 (Se.In w0) w0 b m1 m2 (esG 19) (esK 3) (d:Int) x.sets h.sets hl (enters_of Tryz.func169 (by kernel_rfl) rfl) (fun y hy=>wr_se hT d hd y (each_all hb.2 y hy) (h.sets.kids y hy)) t v hw hlen
  exact (wr_branch_sets w0 b m1 m2 (esG 19) (esK 3) d hd _ _ _ _ _ hS).to (by simp)
theorem wr_names (d:Nat) (hd:d ≤ 500) (L:Sl ByteArray) (h:L.In w0 1 strCells strOk) (hl:L.l.length ≤ 1048576):Wc w0 b m1 m2 (esG 19) (esK 3) 114 #[L.v,.func (.func 115) #[.pointer (some ⟨b,0,none⟩)] #[]] (flat (takeL d) L.l) (d:Int) (d:Int) :=
 fun t v hw hlen=>peach_string (takeL d) 115 strOk w0 b m1 m2 (esG 19) (esK 3) (d:Int) L h hl (enters_of Tryz.func115 (by kernel_rfl) rfl) (fun s _=>(wr_take w0 b m1 m2 (esG 19) (esK 3) d (by omega) s).to (by unfold takeL;simp [catB])) t v hw hlen
theorem wr_sa (hT:Tab w0) (d:Nat) (hd:d ≤ 300) (x:Sa) (hb:saB x = true) (h:x.In w0) (hz:x.sz ≤ 1048576):Wm w0 b m1 m2 (esG 19) (esK 3) 68 (.agg x.cells.toArray) (Sa.ln d x) (d:Int):=by
 have l1:x.takes.l.length ≤ 1048576:=len_le strSize strSize_pos x.takes (by unfold Sa.sz at hz;omega)
 have l2:x.keys.l.length ≤ 1048576:=len_le Ex.wt (fun y=>by rw [Ex.wt_eq];omega) x.keys (n:=1048576) (by unfold Sa.sz at hz;omega)
 have l3:x.cases.l.length ≤ 1048576:=len_le Ca.sz (fun y=>by unfold Ca.sz;omega) x.cases (n:=1048576) (by unfold Sa.sz at hz;omega)
 have l4:∀ y ∈ x.cases.l,y.sets.l.length ≤ 1048576:=fun y hy=>by
  have h1:Ca.sz y ≤ x.cases.size Ca.sz:=le_sum_of Ca.sz x.cases.l y hy
  have h2:Ca.sz y = 1 + y.sets.size Se.sz + y.to.size:=rfl
  have h3:x.sz = 1 + x.name.size + x.takes.size strSize + x.to.size + x.keys.size Ex.wt + x.cases.size Ca.sz:=rfl
  exact len_le Se.sz (fun _=>Nat.le_refl _) y.sets (n:=1048576) (by omega)
 have hb0:=hb
 unfold saB saT at hb
 simp only [Bool.and_eq_true,beq_iff_eq,Lib.toList_data] at hb
 obtain ⟨_,_,tx⟩:=hb
 have tr:Wc w0 b m1 m2 (esG 19) (esK 3) 116 #[.pointer (some ⟨b,0,none⟩),.agg x.cells.toArray] (Sa.tr (d + 1) x) ((d + 1:Nat):Int) ((d + 1:Nat):Int):=by
  unfold Sa.tr
  unfold Sa.cells
  by_cases e:x.to.data.toList = []
  ·rw [if_pos e] at tx ⊢
   rw [Bool.and_eq_true] at tx
   have hK:Wc w0 b m1 m2 (esG 19) (esK 3) 150 #[.pointer (some ⟨b,0,none⟩),x.keys.v,.func (.func 22) #[.pointer (some ⟨b,0,none⟩)] #[]] (rowB Ex.tx x.keys.l) ((d + 1:Nat):Int) ((d + 1:Nat):Int) :=
    fun t v hw hlen=>prow_Expr Ex.cells shp_ex Ex.tx 22 (Ex.In w0) w0 b m1 m2 (esG 19) (esK 3) ((d + 1:Nat):Int) x.keys h.keys l2 (enters_of Tryz.func22 (by kernel_rfl) rfl) (fun y hy=>(wr_ex hT (d + 1) (by omega) y 16 (each_all tx.1 y hy) (h.keys.kids y hy)).1) t v hw hlen
   have hC:Wc w0 b m1 m2 (esG 19) (esK 3) 151 #[.pointer (some ⟨b,0,none⟩),x.cases.v,.func (.func 152) #[.pointer (some ⟨b,0,none⟩)] #[]] (blkB Ca.ln (d + 1) x.cases.l) ((d + 1:Nat):Int) ((d + 1:Nat):Int) :=
    fun t v hw hlen=>pblock_Case Ca.cells shp_ca (Ca.ln (d + 1 + 1)) 152 (Ca.In w0) w0 b m1 m2 (esG 19) (esK 3) (d + 1) (by omega) x.cases h.cases l3 (enters_of Tryz.func152 (by kernel_rfl) rfl) (fun y hy=>wr_ca hT (d + 1 + 1) (by omega) _ y (each_all tx.2 y hy) (h.cases.kids y hy) (l4 y hy)) t v hw hlen
   exact Wm.to (wr_trans_select w0 b m1 m2 (esG 19) (esK 3) (d + 1) (by omega) _ _ _ _ _ _ _ _ _ _ _ _ _ hK hC (by rw [list_beq,decide_eq_true e])) (by simp)
  ·rw [if_neg e]
   exact wr_trans_to w0 b m1 m2 (esG 19) (esK 3) (d + 1) (by omega) _ _ _ _ _ _ _ _ _ _ _ (by rw [list_beq,decide_eq_false e])
 exact (wr_state_of w0 b m1 m2 (esG 19) (esK 3) d (by omega) _ _ _ _ _ _ _ _ _ _ _ _ _ (wr_names (d + 1) (by omega) x.takes h.takes l1) tr).to (by unfold Sa.ln;simp)
end
section
variable {w0:World} {b m1 m2:Nat}
theorem St_parts {w:World} {s:St} (h:s.In w):(⟨s.p,s.cap,s.thn⟩:Sl St).In w 14 St.cells (St.In w) ∧ (⟨s.q,s.cbp,s.els⟩:Sl St).In w 14 St.cells (St.In w):=by
 cases h
 exact ⟨⟨by assumption,by assumption,by assumption,by assumption⟩,⟨by assumption,by assumption,by assumption,by assumption⟩⟩
theorem sts_le {s:St} (hz:s.sz ≤ 1048576):s.thn.length ≤ 1048576 ∧ s.els.length ≤ 1048576 ∧ (∀ x ∈ s.thn,x.sz ≤ 1048576) ∧ (∀ x ∈ s.els,x.sz ≤ 1048576):=by
 rw [St.sz_eq] at hz
 have h1:=length_le_sum St.sz St.sz_pos s.thn
 have h2:=length_le_sum St.sz St.sz_pos s.els
 refine ⟨by omega,by omega,fun x hx=>?_,fun x hx=>?_⟩
 ·have:=le_sum_of St.sz s.thn x hx
  omega
 ·have:=le_sum_of St.sz s.els x hx
  omega
set_option maxHeartbeats 2000000 in
theorem wr_st (hT:Tab w0):∀ (s:St) (d n:Nat),d + n ≤ 400 → St.ok n s → s.In w0 → s.sz ≤ 1048576 → Wm w0 b m1 m2 (esG 19) (esK 3) 74 (.agg s.cells.toArray) (St.ln d s) (d:Int):=by
 intro s
 induction s using St.ind with
 | _ s ih1 ih2 =>
 intro d n hd ho hi hz
 have px:=one_parts ho.1
 obtain ⟨i1,i2⟩:=St_parts hi
 obtain ⟨l1,l2,z1,z2⟩:=sts_le hz
 have hE:tExpr s.kind = true → Wm w0 b m1 m2 (esG 19) (esK 3) 22 (.agg s.e.cells.toArray) s.e.tx (d:Int):=fun ht=>(wr_ex hT d (by omega) s.e 16 (px.expr ht) (St_e_in hi)).1
 have hh:=px.head
 rw [St.ln_eq]
 unfold St.cells
 unfold Ex.cells at hE
 rcases kinds px.lo px.hi with k | k | k | k | k | k | k <;> rw [k] at hE hh ⊢
 ·refine (wr_stmt_set w0 b m1 m2 (esG 19) (esK 3) d (by omega) _ _ _ _ _ _ _ _ _ _ _ _ _ _ _ _ _ _ _ _ ?_)
  by_cases e:s.head.data.toList = []
  ·exact Wm.to (wr_assign_meta w0 b m1 m2 (esG 19) (esK 3) d (by omega) _ _ _ _ _ _ _ _ _ _ _ _ _ _ _ _ _ _ _ _ _ (hE rfl) (by rw [list_beq,decide_eq_true e])) (by simp [stL,asgL,e])
  ·exact Wm.to (wr_assign_head w0 b m1 m2 (esG 19) (esK 3) d (by omega) _ _ _ _ _ _ _ _ _ _ _ _ _ _ _ _ _ _ _ _ _ (hE rfl) (by rw [list_beq,decide_eq_false e])) (by simp [stL,asgL,e])
 ·refine (wr_stmt_if w0 b m1 m2 (esG 19) (esK 3) d (by omega) _ _ _ _ _ _ _ _ _ _ _ _ _ _ _ _ _ _ _ _ ?_)
  have lines:∀ (L:Sl St),L.In w0 14 St.cells (St.In w0) → L.l.length ≤ 1048576 → (∀ x ∈ L.l,Wm w0 b m1 m2 (esG 19) (esK 3) 74 (.agg x.cells.toArray) (St.ln (d + 1) x) ((d + 1:Nat):Int)) → Wc w0 b m1 m2 (esG 19) (esK 3) 122 #[L.v,.func (.func 74) #[.pointer (some ⟨b,0,none⟩)] #[]] (flat (St.ln (d + 1)) L.l) ((d + 1:Nat):Int) ((d + 1:Nat):Int) :=
   fun L hL hl hf t v hw hlen=>peach_Stmt St.cells shp_st (St.ln (d + 1)) 74 (St.In w0) w0 b m1 m2 (esG 19) (esK 3) ((d + 1:Nat):Int) L hL hl (enters_of Tryz.func74 (by kernel_rfl) rfl) hf t v hw hlen
  have hA:=lines ⟨s.p,s.cap,s.thn⟩ i1 l1 (fun x hx=>by
   obtain ⟨m,rfl,hm⟩:=mayB_pos ho.2.1 x hx
   exact ih1 x hx (d + 1) m (by omega) hm (St_thn_in hi x hx) (z1 x hx))
  by_cases e:s.els = []
  ·rw [e]
   exact Wm.to (wr_choice_then w0 b m1 m2 (esG 19) (esK 3) d (by omega) _ _ _ _ _ _ _ _ _ _ _ _ _ _ _ _ _ _ _ _ _ (hE rfl) hA) (by simp [stL])
  ·have hB:=lines ⟨s.q,s.cbp,s.els⟩ i2 l2 (fun x hx=>by
    obtain ⟨m,rfl,hm⟩:=mayB_pos ho.2.2 x hx
    exact ih2 x hx (d + 1) m (by omega) hm (St_els_in hi x hx) (z2 x hx))
   exact Wm.to (wr_choice_else w0 b m1 m2 (esG 19) (esK 3) d (by omega) _ _ _ _ _ _ _ _ _ _ _ _ _ _ _ _ _ _ _ _ _ _ _ (hE rfl) hA hB (List.length_pos_iff.2 e)) (by simp [stL,e])
 ·exact Wm.to (wr_stmt_apply w0 b m1 m2 (esG 19) (esK 3) d (by omega) _ _ _ _ _ _ _ _ _ _ _ _ _ _ _ _ _ _ _) (by simp [stL])
 ·exact Wm.to (wr_stmt_drop w0 b m1 m2 (esG 19) (esK 3) d (by omega) _ _ _ _ _ _ _ _ _ _ _ _ _ _ _ _ _ _ _) (by simp [stL])
 ·exact Wm.to (wr_stmt_forward w0 b m1 m2 (esG 19) (esK 3) d (by omega) _ _ _ _ _ _ _ _ _ _ _ _ _ _ _ _ _ _ _ _ (hE rfl)) (by simp [stL])
 ·exact Wm.to (wr_stmt_valid w0 b m1 m2 (esG 19) (esK 3) d (by omega) _ _ _ _ _ _ _ _ _ _ _ _ _ _ _ _ _ _ _) (by simp [stL])
 ·exact Wm.to (wr_stmt_invalid w0 b m1 m2 (esG 19) (esK 3) d (by omega) _ _ _ _ _ _ _ _ _ _ _ _ _ _ _ _ _ _ _) (by simp [stL])
theorem wr_sts (hT:Tab w0) (L:Sl St) (h:L.In w0 14 St.cells (St.In w0)) (hz:L.size St.sz ≤ 1048576) (hb:St.mayB 8 L.l = true):Wc w0 b m1 m2 (esG 19) (esK 3) 73 #[.pointer (some ⟨b,0,none⟩),L.v,.func (.func 74) #[.pointer (some ⟨b,0,none⟩)] #[]] (blkB St.ln 0 L.l) ((0:Nat):Int) ((0:Nat):Int) :=
 fun t v hw hlen=>pblock_Stmt St.cells shp_st (St.ln 1) 74 (St.In w0) w0 b m1 m2 (esG 19) (esK 3) 0 (by omega) L h (len_le St.sz St.sz_pos L hz) (enters_of Tryz.func74 (by kernel_rfl) rfl) (fun x hx=>by
  obtain ⟨m,hm8,hm⟩:=mayB_pos hb x hx
  exact wr_st hT x 1 m (by omega) hm (h.kids x hx) (Nat.le_trans (le_sum_of St.sz L.l x hx) hz)) t v hw hlen
theorem wr_ac (hT:Tab w0) (x:Ac) (hb:acB x = true) (h:x.In w0) (hz:x.sz ≤ 1048576):Wm w0 b m1 m2 (esG 19) (esK 3) 70 (.agg x.cells.toArray) x.tx ((0:Nat):Int):=by
 unfold acB at hb
 simp only [Bool.and_eq_true] at hb
 have hs:x.sz = 1 + x.name.size + x.params.size Fd.sz + x.body.size St.sz:=rfl
 have hP:Wc w0 b m1 m2 (esG 19) (esK 3) 117 #[.pointer (some ⟨b,0,none⟩),x.params.v,.func (.func 112) #[.pointer (some ⟨b,0,none⟩)] #[]] (rowB Fd.tx x.params.l) ((0:Nat):Int) ((0:Nat):Int) :=
  fun t v hw hlen=>prow_Field Fd.cells shp_fd Fd.tx 112 (Fd.In w0) w0 b m1 m2 (esG 19) (esK 3) ((0:Nat):Int) x.params h.params (len_le Fd.sz Fd.sz_pos x.params (by omega)) (enters_of Tryz.func112 (by kernel_rfl) rfl) (fun y hy=>wr_fd hT _ y (h.params.kids y hy)) t v hw hlen
 exact (wr_action_of w0 b m1 m2 (esG 19) (esK 3) 0 (by omega) _ _ _ _ _ _ _ _ _ hP (wr_sts hT x.body h.body (by omega) hb.2.2)).to (by unfold Ac.tx;simp [padB])
theorem wr_ke (hT:Tab w0) (d:Nat) (hd:d ≤ 500) (x:Ke) (hb:keB x = true) (h:x.In w0):Wm w0 b m1 m2 (esG 19) (esK 3) 119 (.agg x.cells.toArray) (Ke.ln d x) (d:Int):=by
 unfold keB at hb
 simp only [Bool.and_eq_true,decide_eq_true_eq] at hb
 exact (wr_key_of w0 b m1 m2 (esG 19) d hd _ _ _ _ _ _ _ _ _ _ _ x.kind hb.1 hb.2.1 _ (wr_ex hT d hd x.e 16 hb.2.2 h.e).1).to (by unfold Ke.ln;simp)
theorem wr_ta (hT:Tab w0) (x:Ta) (hb:taB x = true) (h:x.In w0) (hz:x.sz ≤ 1048576):Wm w0 b m1 m2 (esG 19) (esK 3) 72 (.agg x.cells.toArray) x.tx ((0:Nat):Int):=by
 unfold taB at hb
 simp only [Bool.and_eq_true] at hb
 have hs:x.sz = 1 + x.name.size + x.keys.size Ke.sz + x.actions.size strSize + (x.dflt.name.size + x.dflt.args.size (fun _=>1)):=rfl
 have hK:Wc w0 b m1 m2 (esG 19) (esK 3) 118 #[.pointer (some ⟨b,0,none⟩),x.keys.v,.func (.func 119) #[.pointer (some ⟨b,0,none⟩)] #[]] (blkB Ke.ln 1 x.keys.l) ((0 + 1:Nat):Int) ((0 + 1:Nat):Int) :=
  fun t v hw hlen=>pblock_Key Ke.cells shp_ke (Ke.ln 2) 119 (Ke.In w0) w0 b m1 m2 (esG 19) (esK 3) 1 (by omega) x.keys h.keys (len_le Ke.sz (fun y=>by unfold Ke.sz;omega) x.keys (by omega)) (enters_of Tryz.func119 (by kernel_rfl) rfl) (fun y hy=>wr_ke hT 2 (by omega) y (each_all hb.2.1 y hy) (h.keys.kids y hy)) t v hw hlen
 have hL:Wc w0 b m1 m2 (esG 19) (esK 3) 75 #[.pointer (some ⟨b,0,none⟩),x.actions.v,.func (.func 120) #[.pointer (some ⟨b,0,none⟩)] #[]] (blkB listL 1 x.actions.l) ((0 + 1:Nat):Int) ((0 + 1:Nat):Int) :=
  fun t v hw hlen=>pblock_string (listL 2) 120 strOk w0 b m1 m2 (esG 19) (esK 3) 1 (by omega) x.actions h.actions (len_le strSize strSize_pos x.actions (by omega)) (enters_of Tryz.func120 (by kernel_rfl) rfl) (fun s _=>(wr_listed w0 b m1 m2 (esG 19) (esK 3) 2 (by omega) s).to (by unfold listL;simp [catB])) t v hw hlen
 have hG:Wc w0 b m1 m2 (esG 19) (esK 3) 121 #[.pointer (some ⟨b,0,none⟩),x.dflt.args.v,.func (.func 40) #[.pointer (some ⟨b,0,none⟩)] #[]] (rowB Lt.tx x.dflt.args.l) ((0 + 1:Nat):Int) ((0 + 1:Nat):Int) :=
  fun t v hw hlen=>prow_Lit Lt.cells shp_lt Lt.tx 40 Lt.Ok w0 b m1 m2 (esG 19) (esK 3) ((0 + 1:Nat):Int) x.dflt.args h.dflt.args (len_le (fun _=>1) (fun _=>Nat.le_refl _) x.dflt.args (by omega)) (enters_of Tryz.func40 (by kernel_rfl) rfl) (fun y hy=>wr_lit y _ hT (h.dflt.args.kids y hy)) t v hw hlen
 exact (wr_table_of w0 b m1 m2 (esG 19) (esK 3) 0 (by omega) _ _ _ _ _ _ _ _ _ _ _ _ _ _ hK hL hG).to (by unfold Ta.tx;simp [padB])
theorem wr_pr (hT:Tab w0) (x:Pr) (hb:prB x = true) (h:x.In w0) (hz:x.sz ≤ 1048576):Wm w0 b m1 m2 (esG 19) (esK 3) 27 (.agg x.cells.toArray) x.tx ((0:Nat):Int):=by
 unfold prB at hb
 simp only [Bool.and_eq_true] at hb
 obtain ⟨b1,b2,b3,b4,b5,b6,b7⟩:=hb
 have hs:x.sz = x.headers.size Hr.sz + x.metas.size Fd.sz + x.states.size Sa.sz + x.actions.size Ac.sz + x.tables.size Ta.sz + x.control.size St.sz + x.emit.size strSize:=rfl
 have g1:Wc w0 b m1 m2 (esG 19) (esK 3) 62 #[x.headers.v,.func (.func 63) #[.pointer (some ⟨b,0,none⟩)] #[]] (flat Hr.tx x.headers.l) ((0:Nat):Int) ((0:Nat):Int) :=
  fun t v hw hlen=>peach_Header Hr.cells shp_hr Hr.tx 63 (Hr.In w0) w0 b m1 m2 (esG 19) (esK 3) ((0:Nat):Int) x.headers h.headers (len_le Hr.sz (fun y=>by unfold Hr.sz;omega) x.headers (by omega)) (enters_of Tryz.func63 (by kernel_rfl) rfl) (fun y hy=>wr_hr hT y (h.headers.kids y hy) (by
   have h1:Hr.sz y ≤ x.headers.size Hr.sz:=le_sum_of Hr.sz x.headers.l y hy
   have h2:Hr.sz y = 1 + y.name.size + y.fields.size Fd.sz:=rfl
   exact len_le Fd.sz Fd.sz_pos y.fields (by omega))) t v hw hlen
 have g2:=wr_fields (b:=b) (m1:=m1) (m2:=m2) hT 0 (by omega) x.metas h.metas (len_le Fd.sz Fd.sz_pos x.metas (by omega))
 have g3:Wc w0 b m1 m2 (esG 19) (esK 3) 67 #[.pointer (some ⟨b,0,none⟩),x.states.v,.func (.func 68) #[.pointer (some ⟨b,0,none⟩)] #[]] (blkB Sa.ln 0 x.states.l) ((0:Nat):Int) ((0:Nat):Int) :=
  fun t v hw hlen=>pblock_State Sa.cells shp_sa (Sa.ln 1) 68 (Sa.In w0) w0 b m1 m2 (esG 19) (esK 3) 0 (by omega) x.states h.states (len_le Sa.sz (fun y=>by unfold Sa.sz;omega) x.states (by omega)) (enters_of Tryz.func68 (by kernel_rfl) rfl) (fun y hy=>wr_sa hT 1 (by omega) y (each_all b3 y hy) (h.states.kids y hy) (by
   have h1:Sa.sz y ≤ x.states.size Sa.sz:=le_sum_of Sa.sz x.states.l y hy
   omega)) t v hw hlen
 have g4:Wc w0 b m1 m2 (esG 19) (esK 3) 69 #[x.actions.v,.func (.func 70) #[.pointer (some ⟨b,0,none⟩)] #[]] (flat Ac.tx x.actions.l) ((0:Nat):Int) ((0:Nat):Int) :=
  fun t v hw hlen=>peach_Action Ac.cells shp_ac Ac.tx 70 (Ac.In w0) w0 b m1 m2 (esG 19) (esK 3) ((0:Nat):Int) x.actions h.actions (len_le Ac.sz (fun y=>by unfold Ac.sz;omega) x.actions (by omega)) (enters_of Tryz.func70 (by kernel_rfl) rfl) (fun y hy=>wr_ac hT y (each_all b4 y hy) (h.actions.kids y hy) (by
   have h1:Ac.sz y ≤ x.actions.size Ac.sz:=le_sum_of Ac.sz x.actions.l y hy
   omega)) t v hw hlen
 have g5:Wc w0 b m1 m2 (esG 19) (esK 3) 71 #[x.tables.v,.func (.func 72) #[.pointer (some ⟨b,0,none⟩)] #[]] (flat Ta.tx x.tables.l) ((0:Nat):Int) ((0:Nat):Int) :=
  fun t v hw hlen=>peach_Table Ta.cells shp_ta Ta.tx 72 (Ta.In w0) w0 b m1 m2 (esG 19) (esK 3) ((0:Nat):Int) x.tables h.tables (len_le Ta.sz (fun y=>by unfold Ta.sz;omega) x.tables (by omega)) (enters_of Tryz.func72 (by kernel_rfl) rfl) (fun y hy=>wr_ta hT y (each_all b5 y hy) (h.tables.kids y hy) (by
   have h1:Ta.sz y ≤ x.tables.size Ta.sz:=le_sum_of Ta.sz x.tables.l y hy
   omega)) t v hw hlen
 have g6:=wr_sts (b:=b) (m1:=m1) (m2:=m2) hT x.control h.control (by omega) b6
 have g7:Wc w0 b m1 m2 (esG 19) (esK 3) 75 #[.pointer (some ⟨b,0,none⟩),x.emit.v,.func (.func 76) #[.pointer (some ⟨b,0,none⟩)] #[]] (blkB emitL 0 x.emit.l) ((0:Nat):Int) ((0:Nat):Int) :=
  fun t v hw hlen=>pblock_string (emitL 1) 76 strOk w0 b m1 m2 (esG 19) (esK 3) 0 (by omega) x.emit h.emit (len_le strSize strSize_pos x.emit (by omega)) (enters_of Tryz.func76 (by kernel_rfl) rfl) (fun s _=>(wr_emit w0 b m1 m2 (esG 19) (esK 3) 1 (by omega) s).to (by unfold emitL;simp [catB])) t v hw hlen
 exact (wr_program_of w0 b m1 m2 (esG 19) (esK 3) 0 (by omega) _ _ _ _ _ _ _ _ _ _ _ _ _ _ _ _ _ _ _ _ _ _ _ _ _ _ _ _ g1 g2 g3 g4 g5 g6 g7).to (by unfold Pr.tx;simp [padB])
end
def exprT (e:Ex):ByteArray:=if Ex.may 16 e = true then ⟨e.tx.toArray⟩ else ⟨#[]⟩
set_option maxHeartbeats 4000000 in
set_option maxRecDepth 100000 in
theorem print_expr (e:Ex) (w:World) (hT:Tab w) (he:e.In w) (hz:e.wt ≤ 1048576):Kp Tryz.prog w 9 #[.agg e.cells.toArray] (.string (exprT e)):=by
 show Kp Tryz.prog w 9 #[.agg #[.int .u8 e.op,.int .i64 e.lit.w,.int .u64 e.lit.h,.int .u64 e.lit.l,.string e.head,.string e.name,.int .i64 e.hi,.int .i64 e.lo,.slice e.p e.args.length e.cap]] (.string (exprT e))
 intro y
 obtain ⟨V,hV⟩:∃ V,plus w y = V:=⟨_,rfl⟩
 rw [hV]
 have hT0:Tab V:=by rw [← hV];exact tab_plus hT y
 have he0:e.In V:=by rw [← hV];exact he.plus y
 clear he hT hV
 obtain ⟨X,hX⟩:∃ X,X = exprT e:=⟨_,rfl⟩
 rw [← hX]
 obtain ⟨x1,hx1⟩:=alloc1_plus V (.cells #[.int .u8 e.op,.int .i64 e.lit.w,.int .u64 e.lit.h,.int .u64 e.lit.l,.string e.head,.string e.name,.int .i64 e.hi,.int .i64 e.lo,.slice e.p e.args.length e.cap] 29)
 have q1:=(ast_mayExpr e V he0 hz) x1
 rw [← hx1] at q1
 have hb0:=Lib.hid (alloc_new V (.cells #[.int .u8 e.op,.int .i64 e.lit.w,.int .u64 e.lit.h,.int .u64 e.lit.l,.string e.head,.string e.name,.int .i64 e.hi,.int .i64 e.lo,.slice e.p e.args.length e.cap] 29))
 have hT1:Hid (Tab (V.alloc (.cells #[.int .u8 e.op,.int .i64 e.lit.w,.int .u64 e.lit.h,.int .u64 e.lit.l,.string e.head,.string e.name,.int .i64 e.hi,.int .i64 e.lo,.slice e.p e.args.length e.cap] 29))):=Lib.hid (by rw [hx1];exact tab_plus hT0 x1)
 have he1:Hid (e.In (V.alloc (.cells #[.int .u8 e.op,.int .i64 e.lit.w,.int .u64 e.lit.h,.int .u64 e.lit.l,.string e.head,.string e.name,.int .i64 e.hi,.int .i64 e.lo,.slice e.p e.args.length e.cap] 29))):=Lib.hid (by rw [hx1];exact he0.plus x1)
 have hX':=Lib.hid hX
 have hz':=Lib.hid hz
 have q1':=Lib.hid q1
 have hx1':=Lib.hid hx1
 clear q1 hT0 he0 hX hz hx1
 go_enter Tryz.func9,Tryz.ntmps9
 go_wp2_with fail
 refine q1'.out.mono ?_
 rintro r U ⟨rfl,x2,hU⟩
 have hbU:U.heap[V.heap.size]? = some (.cells #[.int .u8 e.op,.int .i64 e.lit.w,.int .u64 e.lit.h,.int .u64 e.lit.l,.string e.head,.string e.name,.int .i64 e.hi,.int .i64 e.lo,.slice e.p e.args.length e.cap] 29):=by rw [hU];exact plus_heap hb0.out x2
 have hTU:Hid (Tab U):=Lib.hid (by rw [hU];exact tab_plus hT1.out x2)
 have heU:Hid (e.In U):=Lib.hid (by rw [hU];exact he1.out.plus x2)
 have hUV:Hid (∃ z,U = plus V z):=Lib.hid (by rw [hU,hx1'.out,plus_plus];exact ⟨_,rfl⟩)
 have hlt:=(Array.getElem?_eq_some_iff.1 hbU).1
 have y0:U.cell? ⟨V.heap.size,0,none⟩ = some (.int .u8 e.op):=ch hbU
 have y1:U.cell? ⟨V.heap.size,1,none⟩ = some (.int .i64 e.lit.w):=ch hbU
 have y2:U.cell? ⟨V.heap.size,2,none⟩ = some (.int .u64 e.lit.h):=ch hbU
 have y3:U.cell? ⟨V.heap.size,3,none⟩ = some (.int .u64 e.lit.l):=ch hbU
 have y4:U.cell? ⟨V.heap.size,4,none⟩ = some (.string e.head):=ch hbU
 have y5:U.cell? ⟨V.heap.size,5,none⟩ = some (.string e.name):=ch hbU
 have y6:U.cell? ⟨V.heap.size,6,none⟩ = some (.int .i64 e.hi):=ch hbU
 have y7:U.cell? ⟨V.heap.size,7,none⟩ = some (.int .i64 e.lo):=ch hbU
 have y8:U.cell? ⟨V.heap.size,8,none⟩ = some (.slice e.p e.args.length e.cap):=ch hbU
 have hbU':=Lib.hid hbU
 have hlt':=Lib.hid hlt
 clear q1' hb0 hT1 he1 hU hbU hx1' hlt
 cases hm:Ex.may 16 e with
 | false =>
  have hXe:X = ⟨#[]⟩:=by rw [hX'.out];unfold exprT;rw [hm];rfl
  go_wp2
  go_ret
  exact ⟨by rw [hXe];rfl,hUV.out⟩
 | true =>
  have hXe:=Lib.hid (show X = ⟨e.tx.toArray⟩ by rw [hX'.out];unfold exprT;rw [hm];rfl)
  have hm':=Lib.hid hm
  have q2:=Lib.hid (wr_new U U ⟨⟨#[],U.drawn⟩,(plus_self U).symm⟩)
  clear hX' hm y0 y1 y2 y3 y4 y5 y6 y7 y8
  go_wp2_with fail
  refine q2.out.mono ?_
  rintro r u1 ⟨b,m1,m2,rfl,h1⟩
  have hb1:u1.heap[V.heap.size]? = some (.cells #[.int .u8 e.op,.int .i64 e.lit.w,.int .u64 e.lit.h,.int .u64 e.lit.l,.string e.head,.string e.name,.int .i64 e.hi,.int .i64 e.lo,.slice e.p e.args.length e.cap] 29):=by
   obtain ⟨z,hz⟩:=h1.over
   rw [hz];exact plus_heap hbU'.out z
  have z0:u1.cell? ⟨V.heap.size,0,none⟩ = some (.int .u8 e.op):=ch hb1
  have z1:u1.cell? ⟨V.heap.size,1,none⟩ = some (.int .i64 e.lit.w):=ch hb1
  have z2:u1.cell? ⟨V.heap.size,2,none⟩ = some (.int .u64 e.lit.h):=ch hb1
  have z3:u1.cell? ⟨V.heap.size,3,none⟩ = some (.int .u64 e.lit.l):=ch hb1
  have z4:u1.cell? ⟨V.heap.size,4,none⟩ = some (.string e.head):=ch hb1
  have z5:u1.cell? ⟨V.heap.size,5,none⟩ = some (.string e.name):=ch hb1
  have z6:u1.cell? ⟨V.heap.size,6,none⟩ = some (.int .i64 e.hi):=ch hb1
  have z7:u1.cell? ⟨V.heap.size,7,none⟩ = some (.int .i64 e.lo):=ch hb1
  have z8:u1.cell? ⟨V.heap.size,8,none⟩ = some (.slice e.p e.args.length e.cap):=ch hb1
  have q3:=Lib.hid ((wr_ex hTU.out 0 (by omega) e 16 hm'.out heU.out).1 [] u1 h1 (by
   have:=ex_len e heU.out
   have:=hz'.out
   simp only [List.length_nil]
   omega))
  clear q2 h1 hb1
  go_wp2_with fail
  refine q3.out.mono ?_
  rintro r u2 ⟨rfl,h2,_⟩
  have q4:=Lib.hid (wr_string U b m1 m2 (esG 19) (esK 3) ([]++e.tx) ((0:Nat):Int) u2 h2 (by rw [List.nil_append];exact tx_some hm'.out))
  clear q3 h2 z0 z1 z2 z3 z4 z5 z6 z7 z8
  go_wp2_with fail
  refine q4.out.mono ?_
  rintro r u3 ⟨rfl,hu⟩
  have hu':=Lib.hid hu
  clear q4 hu
  go_wp2
  go_ret
  refine ⟨by rw [hXe.out];rfl,?_⟩
  obtain ⟨x,rfl⟩:=hu'.out
  obtain ⟨z,rfl⟩:=hUV.out
  exact ⟨_,plus_plus _ _ _⟩
def progT (p:Pr):ByteArray:=if prB p = true then ⟨p.tx.toArray⟩ else ⟨#[]⟩
set_option maxHeartbeats 4000000 in
set_option maxRecDepth 100000 in
theorem print_prog (p:Pr) (w:World) (hT:Tab w) (he:p.In w) (hz:p.sz ≤ 1048576):Kp Tryz.prog w 11 #[.agg p.cells.toArray] (.string (progT p)):=by
 show Kp Tryz.prog w 11 #[.agg #[.slice p.headers.p p.headers.l.length p.headers.cap,.slice p.metas.p p.metas.l.length p.metas.cap,.slice p.states.p p.states.l.length p.states.cap,.slice p.actions.p p.actions.l.length p.actions.cap,.slice p.tables.p p.tables.l.length p.tables.cap,.slice p.control.p p.control.l.length p.control.cap,.slice p.emit.p p.emit.l.length p.emit.cap]] (.string (progT p))
 intro y
 obtain ⟨V,hV⟩:∃ V,plus w y = V:=⟨_,rfl⟩
 rw [hV]
 have hT0:Tab V:=by rw [← hV];exact tab_plus hT y
 have he0:p.In V:=by rw [← hV];exact he.plus y
 clear he hT hV
 obtain ⟨X,hX⟩:∃ X,X = progT p:=⟨_,rfl⟩
 rw [← hX]
 obtain ⟨x1,hx1⟩:=alloc1_plus V (.cells #[.slice p.headers.p p.headers.l.length p.headers.cap,.slice p.metas.p p.metas.l.length p.metas.cap,.slice p.states.p p.states.l.length p.states.cap,.slice p.actions.p p.actions.l.length p.actions.cap,.slice p.tables.p p.tables.l.length p.tables.cap,.slice p.control.p p.control.l.length p.control.cap,.slice p.emit.p p.emit.l.length p.emit.cap] 38)
 have q1:=(ast_may p V he0 hz) x1
 rw [← hx1] at q1
 have hb0:=Lib.hid (alloc_new V (.cells #[.slice p.headers.p p.headers.l.length p.headers.cap,.slice p.metas.p p.metas.l.length p.metas.cap,.slice p.states.p p.states.l.length p.states.cap,.slice p.actions.p p.actions.l.length p.actions.cap,.slice p.tables.p p.tables.l.length p.tables.cap,.slice p.control.p p.control.l.length p.control.cap,.slice p.emit.p p.emit.l.length p.emit.cap] 38))
 have hT1:Hid (Tab (V.alloc (.cells #[.slice p.headers.p p.headers.l.length p.headers.cap,.slice p.metas.p p.metas.l.length p.metas.cap,.slice p.states.p p.states.l.length p.states.cap,.slice p.actions.p p.actions.l.length p.actions.cap,.slice p.tables.p p.tables.l.length p.tables.cap,.slice p.control.p p.control.l.length p.control.cap,.slice p.emit.p p.emit.l.length p.emit.cap] 38))):=Lib.hid (by rw [hx1];exact tab_plus hT0 x1)
 have he1:Hid (p.In (V.alloc (.cells #[.slice p.headers.p p.headers.l.length p.headers.cap,.slice p.metas.p p.metas.l.length p.metas.cap,.slice p.states.p p.states.l.length p.states.cap,.slice p.actions.p p.actions.l.length p.actions.cap,.slice p.tables.p p.tables.l.length p.tables.cap,.slice p.control.p p.control.l.length p.control.cap,.slice p.emit.p p.emit.l.length p.emit.cap] 38))):=Lib.hid (by rw [hx1];exact he0.plus x1)
 have hX':=Lib.hid hX
 have hz':=Lib.hid hz
 have q1':=Lib.hid q1
 have hx1':=Lib.hid hx1
 clear q1 hT0 he0 hX hz hx1
 go_enter Tryz.func11,Tryz.ntmps11
 go_wp2_with fail
 refine q1'.out.mono ?_
 rintro r U ⟨rfl,x2,hU⟩
 have hbU:U.heap[V.heap.size]? = some (.cells #[.slice p.headers.p p.headers.l.length p.headers.cap,.slice p.metas.p p.metas.l.length p.metas.cap,.slice p.states.p p.states.l.length p.states.cap,.slice p.actions.p p.actions.l.length p.actions.cap,.slice p.tables.p p.tables.l.length p.tables.cap,.slice p.control.p p.control.l.length p.control.cap,.slice p.emit.p p.emit.l.length p.emit.cap] 38):=by rw [hU];exact plus_heap hb0.out x2
 have hTU:Hid (Tab U):=Lib.hid (by rw [hU];exact tab_plus hT1.out x2)
 have heU:Hid (p.In U):=Lib.hid (by rw [hU];exact he1.out.plus x2)
 have hUV:Hid (∃ z,U = plus V z):=Lib.hid (by rw [hU,hx1'.out,plus_plus];exact ⟨_,rfl⟩)
 have hlt:=(Array.getElem?_eq_some_iff.1 hbU).1
 have y0:U.cell? ⟨V.heap.size,0,none⟩ = some (.slice p.headers.p p.headers.l.length p.headers.cap):=ch hbU
 have y1:U.cell? ⟨V.heap.size,1,none⟩ = some (.slice p.metas.p p.metas.l.length p.metas.cap):=ch hbU
 have y2:U.cell? ⟨V.heap.size,2,none⟩ = some (.slice p.states.p p.states.l.length p.states.cap):=ch hbU
 have y3:U.cell? ⟨V.heap.size,3,none⟩ = some (.slice p.actions.p p.actions.l.length p.actions.cap):=ch hbU
 have y4:U.cell? ⟨V.heap.size,4,none⟩ = some (.slice p.tables.p p.tables.l.length p.tables.cap):=ch hbU
 have y5:U.cell? ⟨V.heap.size,5,none⟩ = some (.slice p.control.p p.control.l.length p.control.cap):=ch hbU
 have y6:U.cell? ⟨V.heap.size,6,none⟩ = some (.slice p.emit.p p.emit.l.length p.emit.cap):=ch hbU
 have hbU':=Lib.hid hbU
 have hlt':=Lib.hid hlt
 clear q1' hb0 hT1 he1 hU hbU hx1' hlt
 cases hm:prB p with
 | false =>
  have hXe:X = ⟨#[]⟩:=by rw [hX'.out];unfold progT;rw [hm];rfl
  go_wp2
  go_ret
  exact ⟨by rw [hXe];rfl,hUV.out⟩
 | true =>
  have hXe:=Lib.hid (show X = ⟨p.tx.toArray⟩ by rw [hX'.out];unfold progT;rw [hm];rfl)
  have hm':=Lib.hid hm
  have q2:=Lib.hid (wr_new U U ⟨⟨#[],U.drawn⟩,(plus_self U).symm⟩)
  clear hX' hm y0 y1 y2 y3 y4 y5 y6
  go_wp2_with fail
  refine q2.out.mono ?_
  rintro r u1 ⟨b,m1,m2,rfl,h1⟩
  have hb1:u1.heap[V.heap.size]? = some (.cells #[.slice p.headers.p p.headers.l.length p.headers.cap,.slice p.metas.p p.metas.l.length p.metas.cap,.slice p.states.p p.states.l.length p.states.cap,.slice p.actions.p p.actions.l.length p.actions.cap,.slice p.tables.p p.tables.l.length p.tables.cap,.slice p.control.p p.control.l.length p.control.cap,.slice p.emit.p p.emit.l.length p.emit.cap] 38):=by
   obtain ⟨z,hz⟩:=h1.over
   rw [hz];exact plus_heap hbU'.out z
  have z0:u1.cell? ⟨V.heap.size,0,none⟩ = some (.slice p.headers.p p.headers.l.length p.headers.cap):=ch hb1
  have z1:u1.cell? ⟨V.heap.size,1,none⟩ = some (.slice p.metas.p p.metas.l.length p.metas.cap):=ch hb1
  have z2:u1.cell? ⟨V.heap.size,2,none⟩ = some (.slice p.states.p p.states.l.length p.states.cap):=ch hb1
  have z3:u1.cell? ⟨V.heap.size,3,none⟩ = some (.slice p.actions.p p.actions.l.length p.actions.cap):=ch hb1
  have z4:u1.cell? ⟨V.heap.size,4,none⟩ = some (.slice p.tables.p p.tables.l.length p.tables.cap):=ch hb1
  have z5:u1.cell? ⟨V.heap.size,5,none⟩ = some (.slice p.control.p p.control.l.length p.control.cap):=ch hb1
  have z6:u1.cell? ⟨V.heap.size,6,none⟩ = some (.slice p.emit.p p.emit.l.length p.emit.cap):=ch hb1
  have q3:=Lib.hid ((wr_pr hTU.out p hm'.out heU.out hz'.out) [] u1 h1 (by
   have:=pr_len hm'.out heU.out
   have:=hz'.out
   simp only [List.length_nil]
   omega))
  clear q2 h1 hb1
  go_wp2_with fail
  refine q3.out.mono ?_
  rintro r u2 ⟨rfl,h2,_⟩
  have q4:=Lib.hid (wr_string U b m1 m2 (esG 19) (esK 3) ([]++p.tx) ((0:Nat):Int) u2 h2 (by rw [List.nil_append];exact pr_some p))
  clear q3 h2 z0 z1 z2 z3 z4 z5 z6
  go_wp2_with fail
  refine q4.out.mono ?_
  rintro r u3 ⟨rfl,hu⟩
  have hu':=Lib.hid hu
  clear q4 hu
  go_wp2
  go_ret
  refine ⟨by rw [hXe.out];rfl,?_⟩
  obtain ⟨x,rfl⟩:=hu'.out
  obtain ⟨z,rfl⟩:=hUV.out
  exact ⟨_,plus_plus _ _ _⟩
end Go.Proofs.YtbelaghcmgefaaaGreatDoor

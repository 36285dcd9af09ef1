/-
  WHAT IS PROVED HERE: TypesCheck, of programs of bulk at most 1048576: the first item with which something is wrong by names or by widths, and what, is the document's. No condition but the bound on the bulk.
-/
import Derived.Carry
import Derived.ProofKit
import Derived.OpenShut
import Derived.JoinedCond
import Derived.Test.YtknmeggfokpbjaaGreatM37
import Derived.Test.YtknmeggfokpbjaaGreatM32
import Derived.Test.YtknmeggfokpbjaaGreatM44
import Derived.Test.YtknmeggfokpbjaaGreatM33
set_option maxRecDepth 100000
set_option maxHeartbeats 8000000
set_option linter.all false
namespace Go.Proofs.YtknmeggfokpbjaaGreat
open Z
open Go.RowKit Go.Proofs.Tryz
open Lib renaming hid→Zf
open List renaming drop_succ_cons→Zg,drop_zero→Zh,getElem?_eq_some_iff→Zi,mem_of_getElem?→Zo,take_succ_cons→Zs
open Nat renaming zero_add→Zv,zero_le→Zw
open Go.Proofs.Tryz renaming prog→Zx
open Value renaming int→Zz
open Go.RowKit
theorem eH(p:Pr)(w:World)(ZF:p.In w)(hz:p.sz≤1048576)(h0:Um p=0):Calls Zx 8 #[.agg #[.slice p.headers.p p.headers.l.length p.headers.cap,.slice p.metas.p p.metas.l.length p.metas.cap,.slice p.states.p p.states.l.length p.states.cap,.slice p.actions.p p.actions.l.length p.actions.cap,.slice p.tables.p p.tables.l.length p.tables.cap,.slice p.control.p p.control.l.length p.control.cap,.slice p.emit.p p.emit.l.length p.emit.cap]] w fun e w'=>e=.returned (.tuple #[.int .i64 ((TV p (Yh p) 0).1:Int),.int .i64 (TV p (Yh p) 0).2])∧∃x,w'=plus w x:=by
 obtain⟨hB,Xs⟩:=CO h0;have XI:=Zf hB;have Uq:=Zf (xL hB);have hno':=Zf (yg p w ZF hz hB Xs);have hcn:Ry p=((Yh p).length:Int):=by
  unfold Ry Um at *;rw[hB]at h0 ⊢;simp only[if_true]at h0 ⊢;rw[(Ea p (Yh p) 0 h0).2,Zv]
 obtain⟨R,hR⟩:=ZB (TV p (Yh p) 0);rw[hR];have ZR:=Zf hR;clear hR;have VR:=Zf ZF;have ZN:=Zf hz;have kM:Kp Zx w 22 #[.agg #[.slice p.headers.p p.headers.l.length p.headers.cap,.slice p.metas.p p.metas.l.length p.metas.cap,.slice p.states.p p.states.l.length p.states.cap,.slice p.actions.p p.actions.l.length p.actions.cap,.slice p.tables.p p.tables.l.length p.tables.cap,.slice p.control.p p.control.l.length p.control.cap,.slice p.emit.p p.emit.l.length p.emit.cap]] (.tuple #[.int .i64 ((Yh p).length:Int),.int .i64 0]):=Kp.of fun W2 XJ=>by
  have q:=yK p W2 atw hz;rw[h0,hcn]at q;exact q
 have kM':=Zf kM;clear ZF hz kM h0 hcn Xs;go_enter func8,ntmps8;open Z renaming abH→BD in exact xZ
theorem eG(p:Pr)(w:World)(ZF:p.In w)(hz:p.sz≤1048576)(h0:Um p≠0):Calls Zx 8 #[.agg #[.slice p.headers.p p.headers.l.length p.headers.cap,.slice p.metas.p p.metas.l.length p.metas.cap,.slice p.states.p p.states.l.length p.states.cap,.slice p.actions.p p.actions.l.length p.actions.cap,.slice p.tables.p p.tables.l.length p.tables.cap,.slice p.control.p p.control.l.length p.control.cap,.slice p.emit.p p.emit.l.length p.emit.cap]] w fun e w'=>e=.returned (.tuple #[.int .i64 (Ry p),.int .i64 (Um p)])∧∃x,w'=plus w x:=by
 have kM:Kp Zx w 22 #[.agg #[.slice p.headers.p p.headers.l.length p.headers.cap,.slice p.metas.p p.metas.l.length p.metas.cap,.slice p.states.p p.states.l.length p.states.cap,.slice p.actions.p p.actions.l.length p.actions.cap,.slice p.tables.p p.tables.l.length p.tables.cap,.slice p.control.p p.control.l.length p.control.cap,.slice p.emit.p p.emit.l.length p.emit.cap]] (.tuple #[.int .i64 (Ry p),.int .i64 (Um p)]):=Kp.of fun W2 XJ=>yK p W2 atw hz;generalize Ry p=N at kM ⊢;generalize Um p=E at kM h0 ⊢;have h1:(E !=0)=true:=as4;have kM':=Zf kM;clear ZF hz kM h0;go_enter func8,ntmps8;open Z renaming aen→Gr in exact ER
theorem eF(p:Pr)(w:World)(ZF:p.In w)(hz:p.sz≤1048576):Calls Zx 8 #[.agg #[.slice p.headers.p p.headers.l.length p.headers.cap,.slice p.metas.p p.metas.l.length p.metas.cap,.slice p.states.p p.states.l.length p.states.cap,.slice p.actions.p p.actions.l.length p.actions.cap,.slice p.tables.p p.tables.l.length p.tables.cap,.slice p.control.p p.control.l.length p.control.cap,.slice p.emit.p p.emit.l.length p.emit.cap]] w fun e w'=>e=.returned (.tuple #[.int .i64 (Mm p),.int .i64 (Ml p)])∧∃x,w'=plus w x:=by
 unfold Mm Ml;by_cases h:Um p=0
 ·rw[if_pos h,if_pos h]
  exact eH p w ZF hz h
 ·rw[if_neg h,if_neg h]
  exact eG p w ZF hz h
open Go.RowKit Go.Shelf
theorem aae(p:Pr)(V:World)(ZF:p.In V)(hz:p.sz≤1048576)(hg:6000<p.sz):Calls Zx 3 #[.agg #[.slice p.headers.p p.headers.l.length p.headers.cap,.slice p.metas.p p.metas.l.length p.metas.cap,.slice p.states.p p.states.l.length p.states.cap,.slice p.actions.p p.actions.l.length p.actions.cap,.slice p.tables.p p.tables.l.length p.tables.cap,.slice p.control.p p.control.l.length p.control.cap,.slice p.emit.p p.emit.l.length p.emit.cap]] V fun e w'=>e=.returned (.bool true)∧∃x,w'=plus V x:=by
 have ZL:=Cq p V ZF hz;rw[←FK,decide_eq_true hg]at ZL;open Z renaming acV→BL in exact wI
theorem aah(p:Pr)(V:World)(ZF:p.In V)(hz:p.sz≤1048576)(hg:¬6000<p.sz)(N E:Int)(hN:Mm p=N)(hE:Ml p=E):Calls Zx 3 #[.agg #[.slice p.headers.p p.headers.l.length p.headers.cap,.slice p.metas.p p.metas.l.length p.metas.cap,.slice p.states.p p.states.l.length p.states.cap,.slice p.actions.p p.actions.l.length p.actions.cap,.slice p.tables.p p.tables.l.length p.tables.cap,.slice p.control.p p.control.l.length p.control.cap,.slice p.emit.p p.emit.l.length p.emit.cap]] V fun e w'=>e=.returned (.bool true)∧∃x,w'=plus V x:=by
 have ZL:=Cq p V ZF hz;rw[←FK,decide_eq_false hg]at ZL;have ZT:=ax p V ZF hz;rw[hN,hE]at ZT;have Ys:Kp Zx V 8 #[.agg #[.slice p.headers.p p.headers.l.length p.headers.cap,.slice p.metas.p p.metas.l.length p.metas.cap,.slice p.states.p p.states.l.length p.states.cap,.slice p.actions.p p.actions.l.length p.actions.cap,.slice p.tables.p p.tables.l.length p.tables.cap,.slice p.control.p p.control.l.length p.control.cap,.slice p.emit.p p.emit.l.length p.emit.cap]] (.tuple #[.int .i64 N,.int .i64 E]):=Kp.of fun W2 XJ=>by
  have q:=eF p W2 atw hz;rw[hN,hE]at q;exact q
 open Z renaming acX→BL in exact wI
end Go.Proofs.YtknmeggfokpbjaaGreat
namespace Go.Proofs.YtknmeggfokpbjaaGreat
open Z
open Go.RowKit Go.Proofs.Tryz
open Lib renaming hid→Zf
open List renaming drop_succ_cons→Zg,drop_zero→Zh,getElem?_eq_some_iff→Zi,mem_of_getElem?→Zo,take_succ_cons→Zs
open Nat renaming zero_add→Zv,zero_le→Zw
open Go.Proofs.Tryz renaming prog→Zx
open Value renaming int→Zz
open Go.ChangeShapes Go.WideShapes Go.ChangeAt Go.RowKit
theorem Tryz.own:ownKnob Zx.godebug=none:=asC
theorem Tryz.laidOut:laidOutB Zx=true:=asC
theorem oI{v:Value}{cs:List Value}(h:v.cells.toList=cs)(hl:cs.length≠1):v=.agg cs.toArray:=by
 cases v with
 | agg c =>
  simp only[Value.cells]at h;rw[←h]
 | _=>simp only[Value.cells]at h;subst h;simp at hl
theorem aaf(p:Pr)(V:World)(ZF:p.In V)(hz:p.sz≤1048576):Calls Zx 3 #[.agg p.cells.toArray] V fun e w'=>e=.returned (.bool true)∧∃x,w'=plus V x:=by
 rw[←FK];by_cases hg:6000<p.sz
 ·exact aae p V ZF hz hg
 ·exact aah p V ZF hz hg _ _ rfl rfl
theorem aag(os:Os)(started:os.Started)(H:Type)(enc:TypeId × Value→H)(F:Stop.Interp) :
  ReturnsInHanded {} Tryz.checked os 3 .any ((Rows.OpenSpec.upto Rows.typesCheckSpec).pre6 enc Zx Tryz.f3 Rows.typesCheckUptoRow.domain false) (((Rows.OpenSpec.upto Rows.typesCheckSpec).at F).post enc Zx Tryz.f3 false true false false):=by
 refine returnsInHanded_of_cond (C:=Tryz.checked) (s:=Rows.OpenSpec.upto Rows.typesCheckSpec) (k:=Rows.uptoSmall) rfl Tryz.own started asC func3
  (OpenSpec.witness (enc:=enc) (C:=Tryz.checked) (s:=Rows.OpenSpec.upto Rows.typesCheckSpec) (k:=Rows.uptoSmall) rfl false
   ⟨#[],#[.agg #[.slice none 0 0,.slice none 0 0,.slice none 0 0,.slice none 0 0,.slice none 0 0,.slice none 0 0,.slice none 0 0]],[]⟩ 8 asC asC asC
   (x:=([.agg [.nil,.nil,.nil,.nil,.nil,.nil,.nil]],[],[])) asC rfl asC) ?_
 intro W base args ds gs before _ hW _ hk _;have Uq:=hW;obtain⟨p,q,Rb,hV,rfl,hfz,hnd⟩:=hW;have hA:DataW.TrodAll enc Zx W 0 (fun _=>true) true Tryz.f3.params.toList args.toList ds p:=Rb;rw[Tryz.params3]at hA;obtain⟨v0,d0,rfl,rfl,h0⟩:=trodAll_one hA;obtain⟨rfl,rfl⟩:=trodVars_none hV;clear Rb;have ZC:=Uq.lt;simp only[List.append_nil]at Uq ZC;have hbulk:Rows.uptoBulkAll ([d0]++[])≤1048576:=of_decide_eq_true hk;simp only[List.append_nil,Rows.uptoBulkAll]at hbulk;obtain⟨f0,t0⟩:=id h0;obtain⟨a,ea,ia,sa⟩:=fV _ _ t0;have g0:=oI ea (by simp[Pr.cells]);have Wq:=aaf a W ia (by simp only at sa;omega);rw[←g0]at Wq;refine Wq.mono fun r W' ⟨hr,y,hw⟩=>?_;subst hr;subst hw;have hg:=Xl W y;refine⟨_,rfl,_,_,_,[],p,[],Uq,trodAll_mk1 (shut_bool Tryz.underlying4 true),?_,rfl,hg.frame _,fun h=>asT⟩;exact trodAll_mk1 (Below.trod Tryz.laidOut asC (of_decide_eq_true asC) h0 hg (fun x hx=>ZC x (by simp[hx])))
theorem tcheck_holds:Rows.TypesCheckUptoSaid :=
 OpenClaim.holds_of_cond 3 Tryz.f3 rfl rfl rfl rfl rfl rfl rfl ⟨rfl,rfl,rfl,rfl,rfl⟩ rfl rfl rfl rfl rfl asC func3 asC
  (of_decide_eq_true asC) (by unfold Func.isWrapper;first|(rw[if_pos (by decide +kernel)];kernel_rfl)|(rw[if_neg (by decide +kernel)];exact⟨rfl,rfl⟩))
  (fun os started H enc _ F=>aag os started H enc F)
end Go.Proofs.YtknmeggfokpbjaaGreat

/-
  WHAT IS PROVED HERE: a part of the proof (made narrower and merged by program; the parts: Dv).
-/
import Derived.Test.YtknmeggfokpbjaaGreatM27
set_option maxRecDepth 100000
set_option maxHeartbeats 8000000
set_option linter.all false
namespace Go.Proofs.YtknmeggfokpbjaaGreat
open Z
open Go.RowKit Go.Proofs.Tryz
open Below renaming refl→Zb
open Lib renaming hid→Zf
open List renaming getElem?_eq_some_iff→Zi,length_append→Zj,length_cons→Zk,length_nil→Zl,mem_append→Zn,mem_of_getElem?→Zo
open Nat renaming le_refl→Zt
open Go.Proofs.Tryz renaming prog→Zx
open Value renaming int→Zz
open Go.RowKit Go.Shelf
attribute [local go_sem] Oper.semAt_some
theorem dX(tmps:Array Value)(x:Value)(W:World)(t2:tmps.getD 2 undef=x):(results Tryz.f20 tmps).run Zx W=.ok x W:=by
 simp only[Array.getD_eq_getD_getElem?]at t2;simp[results,Tryz.results20,loadVar,t2,Result.andThen]
theorem ex(p:Pr)(w:World)(ZF:p.In w)(hz:p.sz≤1048576):Calls Zx 20 #[.agg #[.slice p.headers.p p.headers.l.length p.headers.cap,.slice p.metas.p p.metas.l.length p.metas.cap,.slice p.states.p p.states.l.length p.states.cap,.slice p.actions.p p.actions.l.length p.actions.cap,.slice p.tables.p p.tables.l.length p.tables.cap,.slice p.control.p p.control.l.length p.control.cap,.slice p.emit.p p.emit.l.length p.emit.cap]] w fun e w'=>∃(v:Value) (l:List Ri),e=.returned v∧(∃x,w'=plus w x)∧l.length=(Yh p).length∧T6 w.heap.size w' v (Yh p) l:=by
 have VR:=Zf ZF;clear ZF;refine (callsIn_wide (n:=0)).1 ?_;refine callsIn_of_wp_marks func20 rfl trivial ?_ rfl;simp only[ntmps20,List.size_toArray,Zk,Zl,Nat.reduceAdd,Nat.reduceSub,Array.replicate_succ,Array.replicate_zero,List.push_toArray,List.append_toArray,List.nil_append,List.cons_append];gi_wp2;refine⟨trivial,rfl,CallsIn.mono (BC _ _) ?_⟩;rintro e X ⟨rfl,hX⟩;obtain⟨b1,hb1⟩:=ZB w.heap.size;have hU:((w.alloc (.cells #[.slice p.headers.p p.headers.l.length p.headers.cap,.slice p.metas.p p.metas.l.length p.metas.cap,.slice p.states.p p.states.l.length p.states.cap,.slice p.actions.p p.actions.l.length p.actions.cap,.slice p.tables.p p.tables.l.length p.tables.cap,.slice p.control.p p.control.l.length p.control.cap,.slice p.emit.p p.emit.l.length p.emit.cap] 30)).alloc (.cells #[.slice none 0 0] 36)).heap.size=b1+2:=by simp[hb1]
 have hsX:X.heap.size=b1+3:=by rw[hX,World.size_alloc,hU]
 have mc:Boxed X (b1+1) 36 (.slice none 0 0):=by
  rw[hX];refine Boxed.alloc ?_ _;have:=Boxed.new (w.alloc (.cells #[.slice p.headers.p p.headers.l.length p.headers.cap,.slice p.metas.p p.metas.l.length p.metas.cap,.slice p.states.p p.states.l.length p.states.cap,.slice p.actions.p p.actions.l.length p.actions.cap,.slice p.tables.p p.tables.l.length p.tables.cap,.slice p.control.p p.control.l.length p.control.cap,.slice p.emit.p p.emit.l.length p.emit.cap] 30)) 36 (.slice none 0 0);rwa [World.size_alloc,hb1]at this
 have mq:∀j v,p.cells[j]?=some v→X.cell? ⟨b1+2,j,none⟩=some v:=fun j v hj=>by
  rw[hX,←hU];exact ti
 have hKr:∀S,Kr S w X:=fun S=>by rw[hX];exact ((Kr.alloc S w _).trans (Kr.alloc S _ _)).trans (Kr.alloc S _ _)
 have hBX:Below w.heap.size w X:=by rw[hX];exact (((Zb w.heap.size w).alloc (Zt _) _).alloc (by simp) _).alloc (by simp;omega) _
 have IC:=Zf mc;have IQ:=Zf mq;have IK:=Zf hKr;have IB:=Zf hBX;have IX:=Zf hsX;rw[hU,hb1];have Ib:=Zf hb1;clear hX hU hsX mc mq hKr hBX hb1;gi_wp2;refine abf (gf:=66) (lb:=#[.pointer (some ⟨b1+2,0,none⟩)]) rfl (enters_of func66 asC rfl) (Yh p) It.v ⟨fun b=>b=b1+1,b1+3⟩ ?seq rfl
  (fun k W=>Kq (fun b=>b=b1+1∨b1+3≤b) X W∧∃(v:Value) (l:List Ri),Boxed W (b1+1) 36 v∧T6 (b1+3) W v (Yh p) l∧l.length=k)
  (fun _=>False)
  ?hI ?hIx ?h0 ?round ?done ?stop
 case seq =>
  intro l J Jx W hl ZC hk hJ hN h0;have hs:=IX.out;have hb:=Ib.out;have YB:=(hk ⟨fun _=>False,0⟩).size;refine (je l p (Bx.add ⟨fun b=>b=b1+1,b1+3⟩ l) J Jx ⟨hN,hJ⟩ w ⟨by show w.heap.size≤b1+3;omega,fun b h=>?_⟩ VR.out hz (b1+2) W ((IK.out _).trans (hk _)) (fun b h=>?_) (fun h=>?_) (fun j v hj=>?_) h0)
  ·rcases h with h|h
   ·omega
   ·omega
  ·rcases h with h|h
   ·omega
   ·omega
  ·rcases h with (h|h)|⟨h,_⟩
   ·omega
   ·omega
   ·have:b1+3≤b1+2:=h
    omega
  ·rw[Cp]
   exact (hk ⟨fun _=>False,b1+3⟩).cell _ _ (fun h=>by
    rcases h with h|⟨h,_⟩
    ·exact h
    ·have:b1+3≤b1+2:=h
     omega) (IQ.out j v hj)
 case hI =>
  rintro k W W' ⟨h1,v,l,h2,h3,h4⟩ hk;have hs:=IX.out;exact⟨h1.trans (hk.kq.mono fun b h=>.inr asB),v,l,hk.obj _ _ h2 rfl,h3.ko hk,h4⟩
 case hIx=>exact fun _ _ h _=>h
 case h0=>exact⟨Kq.refl _ _,.slice none 0 0,[],IC.out,⟨World.ownsRow_nil _ _ _ _,fun j z r _ h=>by simp at h,fun r h=>asT⟩,rfl⟩
 case round =>
  rintro l k z W hl ZC hx ⟨h1,v,l',h2,h3,h4⟩;obtain⟨r0,hr0⟩:=ZB z.ri;have hv:=z.v_ri;have SE:∀r:Ri,r.k=r0.k→r.a=r0.a→r.b=r0.b→r.s.kind=r0.s.kind→r.s.head=r0.s.head→r.s.name=r0.s.name→r.s.e.bare=r0.s.e.bare→Ks z r:=fun r a b c d e f g=>⟨hr0▸a,hr0▸b,hr0▸c,hr0▸d,hr0▸e,hr0▸f,hr0▸g⟩;have Qo:∀W2,Kq (fun b=>b=b1+1∨b1+3≤b) X W2→r0.s.In W2∧r0.s.sz≤1048576:=fun W2 hk=>by
   rw[←hr0];obtain⟨y,hy⟩:=Yy IB.out;have hp:p.In W2:=zK (S:=fun b=>b1≤b) ((show Kq (fun b=>b1≤b) w X by rw[hy];exact Kq.plus _ w y).trans (hk.mono fun b h=>asB)) (fun b h=>by have:=Ib.out;omega) VR.out;have VS:=PZ p W2 hp hz z (Zo hx);cases VS with
   | stmt a s hs YB=>exact⟨hs,YB⟩
   | _=>exact⟨asw W2,asx⟩
  rw[hr0]at hv;obtain⟨kd,a,b0,⟨ZU,ZI,ZJ,⟨Ye,⟨Yd,Z9,Ya⟩,Z5,Z6,Z8,Yb,Z7,Z4,sargs⟩,Z0,ZZ,sthn,Z3,Z1,sels⟩⟩:=r0;have hv:z.v=.agg #[.int .u8 kd,.int .i64 a,.int .i64 b0,.int .u8 ZU,.string ZI,.string ZJ,.int .u8 Ye,.int .i64 Yd,.int .u64 Z9,.int .u64 Ya,.string Z5,.string Z6,.int .i64 Z8,.int .i64 Yb,.slice Z7 sargs.length Z4,.slice Z0 sthn.length ZZ,.slice Z3 sels.length Z1]:=hv;obtain⟨Yf,hsen⟩:=ZB sargs.length;obtain⟨ZW,hstn⟩:=ZB sthn.length;obtain⟨ZX,hsun⟩:=ZB sels.length;rw[hsen,hstn,hsun]at hv;rw[hv];gi_wp2;refine⟨(KeepsOthers.alloc _ _).from _,Kr.alloc _ _ _,fun W2 Yp ZP=>?_⟩;have hq2:Kq (fun b=>b=b1+1∨b1+3≤b) X W2:=(h1.trans (Kq.alloc _ _ _)).trans (Yp.kq.mono fun b h=>.inr (by have:=IX.out;omega));have hT:=Yp.obj _ _ (World.alloc_heap_new W _) rfl;have VP:=(h3.ko (n:=X.heap.size) (Ko.alloc h1.size (.cells #[.int .u8 kd,.int .i64 a,.int .i64 b0,.int .u8 ZU,.string ZI,.string ZJ,.int .u8 Ye,.int .i64 Yd,.int .u64 Z9,.int .u64 Ya,.string Z5,.string Z6,.int .i64 Z8,.int .i64 Yb,.slice Z7 Yf Z4,.slice Z0 ZW ZZ,.slice Z3 ZX Z1] 49))).ko Yp;have Xg:=Yp.obj _ _ (Boxed.alloc h2 (.cells #[.int .u8 kd,.int .i64 a,.int .i64 b0,.int .u8 ZU,.string ZI,.string ZJ,.int .u8 Ye,.int .i64 Yd,.int .u64 Z9,.int .u64 Ya,.string Z5,.string Z6,.int .i64 Z8,.int .i64 Yb,.slice Z7 Yf Z4,.slice Z0 ZW ZZ,.slice Z3 ZX Z1] 49)) rfl;have hTge:X.heap.size≤W.heap.size:=h1.size;have hnT:v.ownBlock≠some W.heap.size:=fun e=>by
   obtain⟨_,cur,hh⟩:=LB h3.own e;have:=(Array.getElem?_eq_some_iff.1 hh).1;omega
  obtain⟨WK,ZG⟩:=Qo W2 hq2;have hc:=mz _ W2 WK ZG;have hkl:=(Zi.1 hx).1;have hkb:=S9 p hz;have HB:=Zf (show l'.length+1≤100000000 by omega);have HX:=Zf hx;clear Qo WK ZG h1 h2 h3 hx hv Yp hkl hkb;simp only[St.cells,St.kind,St.head,St.name,St.e,St.p,St.cap,St.thn,St.q,St.cbp,St.els,Ex.op,Ex.lit,Ex.head,Ex.name,Ex.hi,Ex.lo,Ex.p,Ex.args,Ex.cap,hsen,hstn,hsun]at hc SE;obtain⟨T,hTT⟩:=ZB W.heap.size;rw[hTT]at hT hTge hnT ⊢;have HN:=Zf hnT;have i0:W2.cell? ⟨T,0,none⟩=some (.int .u8 kd):=YX hT rfl;have i1:W2.cell? ⟨T,1,none⟩=some (.int .i64 a):=YX hT rfl;have i2:W2.cell? ⟨T,2,none⟩=some (.int .i64 b0):=YX hT rfl;have i3:W2.cell? ⟨T,3,none⟩=some (.int .u8 ZU):=YX hT rfl;have i4:W2.cell? ⟨T,4,none⟩=some (.string ZI):=YX hT rfl;have i5:W2.cell? ⟨T,5,none⟩=some (.string ZJ):=YX hT rfl;have i6:W2.cell? ⟨T,6,none⟩=some (.int .u8 Ye):=YX hT rfl;have i7:W2.cell? ⟨T,7,none⟩=some (.int .i64 Yd):=YX hT rfl;have i8:W2.cell? ⟨T,8,none⟩=some (.int .u64 Z9):=YX hT rfl;have i9:W2.cell? ⟨T,9,none⟩=some (.int .u64 Ya):=YX hT rfl;have i10:W2.cell? ⟨T,10,none⟩=some (.string Z5):=YX hT rfl;have i11:W2.cell? ⟨T,11,none⟩=some (.string Z6):=YX hT rfl;have i12:W2.cell? ⟨T,12,none⟩=some (.int .i64 Z8):=YX hT rfl;have i13:W2.cell? ⟨T,13,none⟩=some (.int .i64 Yb):=YX hT rfl;have i14:W2.cell? ⟨T,14,none⟩=some (.slice Z7 Yf Z4):=YX hT rfl;have i15:W2.cell? ⟨T,15,none⟩=some (.slice Z0 ZW ZZ):=YX hT rfl;have i16:W2.cell? ⟨T,16,none⟩=some (.slice Z3 ZX Z1):=YX hT rfl;have Yo:=Zf hc;have Gj:=Zf SE;have WB:=Zf hT;have H2:=Zf Xg;have H3:=Zf VP;have HT:=Zf hTge;have HQ:=Zf hq2;have HS:=Zf (show W2.heap.size=T+1 by have q:=ZP;(try simp only[World.size_alloc]at q);omega);clear hc SE hT Xg VP hTge hTT hq2 ZP hnT;have HL:=Zf h4;clear h4;gi_wp2;refine⟨trivial,rfl,CallsIn.mono (CallsIn.inRound l (callsIn_wide.2 Yo.out)) ?_⟩;rintro E W3 ⟨⟨op2,⟨lw2,lh2,ll2⟩,ehd2,enm2,eh2,el2,ep2,ec2,args2⟩,q2,d2,r2,f2,rfl,⟨x3,WZ⟩,hin3,ho3,hb3⟩;obtain⟨en2,hen2⟩:=ZB args2.length;simp only[Ex.op,Ex.lit,Ex.head,Ex.name,Ex.hi,Ex.lo,Ex.p,Ex.args,Ex.cap,hen2];have V8:W3.heap[T]?=some (.cells #[.int .u8 kd,.int .i64 a,.int .i64 b0,.int .u8 ZU,.string ZI,.string ZJ,.int .u8 Ye,.int .i64 Yd,.int .u64 Z9,.int .u64 Ya,.string Z5,.string Z6,.int .i64 Z8,.int .i64 Yb,.slice Z7 Yf Z4,.slice Z0 ZW ZZ,.slice Z3 ZX Z1] 49 (0,0)):=by rw[WZ];exact UN WB.out x3
  have j3:W3.cell? ⟨T,3,none⟩=some (.int .u8 ZU):=YX V8 rfl;have j4:W3.cell? ⟨T,4,none⟩=some (.string ZI):=YX V8 rfl;have j5:W3.cell? ⟨T,5,none⟩=some (.string ZJ):=YX V8 rfl;have j6:W3.cell? ⟨T,6,none⟩=some (.int .u8 Ye):=YX V8 rfl;have j7:W3.cell? ⟨T,7,none⟩=some (.int .i64 Yd):=YX V8 rfl;have j8:W3.cell? ⟨T,8,none⟩=some (.int .u64 Z9):=YX V8 rfl;have j9:W3.cell? ⟨T,9,none⟩=some (.int .u64 Ya):=YX V8 rfl;have j10:W3.cell? ⟨T,10,none⟩=some (.string Z5):=YX V8 rfl;have j11:W3.cell? ⟨T,11,none⟩=some (.string Z6):=YX V8 rfl;have j12:W3.cell? ⟨T,12,none⟩=some (.int .i64 Z8):=YX V8 rfl;have j13:W3.cell? ⟨T,13,none⟩=some (.int .i64 Yb):=YX V8 rfl;have j14:W3.cell? ⟨T,14,none⟩=some (.slice Z7 Yf Z4):=YX V8 rfl;have j15:W3.cell? ⟨T,15,none⟩=some (.slice Z0 ZW ZZ):=YX V8 rfl;have j16:W3.cell? ⟨T,16,none⟩=some (.slice Z3 ZX Z1):=YX V8 rfl;have f3:=fun o=>frozen_of_row W3 T o _ _ V8;have hE3:∀cur fz,W3.heap[T]?≠some (.cells cur 45 fz):=fun cur fz e=>by
   rw[V8]at e;simp only[Option.some.injEq,Obj.cells.injEq]at e;exact absurd e.2.1 asE
  have Rd:X.heap.size≤W2.heap.size:=by have:=HT.out;have:=HS.out;omega
  have hO3:=H3.out.ko (n:=X.heap.size) (Ko.plus Rd x3);rw[←WZ]at hO3;have Vd:Nh (b1+3) W3 ⟨kd,a,b0,.mk ZU ZI ZJ (.mk op2 ⟨lw2,lh2,ll2⟩ ehd2 enm2 eh2 el2 ep2 ec2 args2) q2 d2 sthn r2 f2 sels⟩:=⟨hin3,WP.mono (by have:=IX.out;omega) ho3⟩;have hc3:Boxed W3 (b1+1) 36 v:=by rw[WZ];exact UN H2.out x3
  have Xi:KeepsFrom X.heap.size W2 W3:=by rw[WZ];exact⟨XZ W2 x3,fun i o _ h _=>UN h x3⟩
  have hr3:Kr ⟨fun b=>b=b1+1,b1+3⟩ W2 W3:=by rw[WZ];exact Kr.plus _ W2 x3
  have hq3:Kq (fun b=>b=b1+1∨b1+3≤b) X W3:=by rw[WZ];exact HQ.out.trans (Kq.plus _ W2 x3)
  have hs3:W2.heap.size≤W3.heap.size:=by rw[WZ];exact XZ W2 x3
  have hbT:b1+3≤T:=by have:=HT.out;have:=IX.out;omega
  obtain⟨U,hU⟩:=ZB (((((((((((((((W3).setCell ⟨T,3,none⟩ (.int .u8 ZU)).setCell ⟨T,4,none⟩ (.string ZI)).setCell ⟨T,5,none⟩ (.string ZJ)).setCell ⟨T,6,none⟩ (.int .u8 op2)).setCell ⟨T,7,none⟩ (.int .i64 lw2)).setCell ⟨T,8,none⟩ (.int .u64 lh2)).setCell ⟨T,9,none⟩ (.int .u64 ll2)).setCell ⟨T,10,none⟩ (.string ehd2)).setCell ⟨T,11,none⟩ (.string enm2)).setCell ⟨T,12,none⟩ (.int .i64 eh2)).setCell ⟨T,13,none⟩ (.int .i64 el2)).setCell ⟨T,14,none⟩ (.slice ep2 en2 ec2)).setCell ⟨T,15,none⟩ (.slice q2 ZW d2)).setCell ⟨T,16,none⟩ (.slice r2 ZX f2));have hV:Vt T W3 3 [.int .u8 ZU,.string ZI,.string ZJ,.int .u8 op2,.int .i64 lw2,.int .u64 lh2,.int .u64 ll2,.string ehd2,.string enm2,.int .i64 eh2,.int .i64 el2,.slice ep2 en2 ec2,.slice q2 ZW d2,.slice r2 ZX f2]=U:=hU;have UK:U.heap[T]?=some (.cells #[.int .u8 kd,.int .i64 a,.int .i64 b0,.int .u8 ZU,.string ZI,.string ZJ,.int .u8 op2,.int .i64 lw2,.int .u64 lh2,.int .u64 ll2,.string ehd2,.string enm2,.int .i64 eh2,.int .i64 el2,.slice ep2 en2 ec2,.slice q2 ZW d2,.slice r2 ZX f2] 49 (0,0)):=by rw[←hV];exact Ga [.int .u8 ZU,.string ZI,.string ZJ,.int .u8 op2,.int .i64 lw2,.int .u64 lh2,.int .u64 ll2,.string ehd2,.string enm2,.int .i64 eh2,.int .i64 el2,.slice ep2 en2 ec2,.slice q2 ZW d2,.slice r2 ZX f2] [.int .u8 kd,.int .i64 a,.int .i64 b0,.int .u8 ZU,.string ZI,.string ZJ,.int .u8 Ye,.int .i64 Yd,.int .u64 Z9,.int .u64 Ya,.string Z5,.string Z6,.int .i64 Z8,.int .i64 Yb,.slice Z7 Yf Z4,.slice Z0 ZW ZZ,.slice Z3 ZX Z1] W3 3 V8
  have hold:∀b,b≠T→b<W3.heap.size→U.heap[b]?=W3.heap[b]?:=fun b hb _=>by rw[←hV];exact Ny _ _ _ b hb
  have hOU:=T6.same hO3 T HN.out hE3 hold;have hiU:Nh (b1+3) U ⟨kd,a,b0,.mk ZU ZI ZJ (.mk op2 ⟨lw2,lh2,ll2⟩ ehd2 enm2 eh2 el2 ep2 ec2 args2) q2 d2 sthn r2 f2 sels⟩:=Vd.keep fun b cur fz _ hh=>(hold b (fun e=>hE3 cur fz (e▸hh)) (Array.getElem?_eq_some_iff.1 hh).1).trans hh;have Uu:Boxed U (b1+1) 36 v:=(hold _ asB hc3.lt).trans hc3;have hkU:KeepsFrom X.heap.size W2 U:=Xi.trans (by rw[←hV];exact (KeepsOthers.from_cells _ _ _).from _);have hsU:U.heap.size=W3.heap.size:=by rw[←hV];exact Gb _ _ _
  have hrU:Kr ⟨fun b=>b=b1+1,b1+3⟩ W2 U:=hr3.trans (Kr.of asB (fun b hb=>by
   by_cases e:b=T
   ·subst e;exact .inr (.inr ⟨hbT,_,_,V8⟩)
   ·exact .inl (hold b e hb)) fun B hb hs=>by
   rw[←hV];exact Oc (hs T (.inr ⟨hbT,_,_,V8⟩)) _ _ _)
  have hqU:Kq (fun b=>b=b1+1∨b1+3≤b) X U:=hq3.trans (by rw[←hV];exact Kq.from_cells (.inr hbT) _ _ _);have u0:U.cell? ⟨T,0,none⟩=some (.int .u8 kd):=YX UK rfl;have u1:U.cell? ⟨T,1,none⟩=some (.int .i64 a):=YX UK rfl;have u2:U.cell? ⟨T,2,none⟩=some (.int .i64 b0):=YX UK rfl;have u3:U.cell? ⟨T,3,none⟩=some (.int .u8 ZU):=YX UK rfl;have u4:U.cell? ⟨T,4,none⟩=some (.string ZI):=YX UK rfl;have u5:U.cell? ⟨T,5,none⟩=some (.string ZJ):=YX UK rfl;have u6:U.cell? ⟨T,6,none⟩=some (.int .u8 op2):=YX UK rfl;have u7:U.cell? ⟨T,7,none⟩=some (.int .i64 lw2):=YX UK rfl;have u8:U.cell? ⟨T,8,none⟩=some (.int .u64 lh2):=YX UK rfl;have u9:U.cell? ⟨T,9,none⟩=some (.int .u64 ll2):=YX UK rfl;have u10:U.cell? ⟨T,10,none⟩=some (.string ehd2):=YX UK rfl;have u11:U.cell? ⟨T,11,none⟩=some (.string enm2):=YX UK rfl;have u12:U.cell? ⟨T,12,none⟩=some (.int .i64 eh2):=YX UK rfl;have u13:U.cell? ⟨T,13,none⟩=some (.int .i64 el2):=YX UK rfl;have u14:U.cell? ⟨T,14,none⟩=some (.slice ep2 en2 ec2):=YX UK rfl;have u15:U.cell? ⟨T,15,none⟩=some (.slice q2 ZW d2):=YX UK rfl;have u16:U.cell? ⟨T,16,none⟩=some (.slice r2 ZX f2):=YX UK rfl;have cU:=Uu.cell;have Sy:b1+3≤U.heap.size:=by have:=IX.out;omega
  have GO:=Zf hOU;have GI:=Zf hiU;have GC:=Zf Uu;have GK:=Zf hkU;have GR:=Zf hrU;have GQ:=Zf hqU;have GB:=Zf Sy;have hb3':=Zf hb3;clear hOU hiU Uu hkU hrU hqU Sy hs3 hsU hold UK hV hq3 hr3 Xi hc3 Vd hO3 Rd hE3 V8 hin3 ho3 WZ hb3 hbT;gi_wp2_with (first|(rw[hU])|(gi_at_builtin;(refine cw GO.out.own GB.out ⟨kd,a,b0,.mk ZU ZI ZJ (.mk op2 ⟨lw2,lh2,ll2⟩ ehd2 enm2 eh2 el2 ep2 ec2 args2) q2 d2 sthn r2 f2 sels⟩ _ (by rw[←hen2,←hstn,←hsun];rfl) rfl _ _ rfl rfl rfl HB.out ?_;intro v5 w5 o5 g5;obtain⟨g6,cap6,rfl,hg6,-⟩:=JL o5 asD;have G6:=Zf hg6;clear hg6;have c5:Boxed w5 (b1+1) 36 v:=(g5.block _ (by rw[World.size_alloc];have:=GC.out.lt;omega) (fun e=>by have:=(LB GO.out.own e.symm).1;omega)).trans (Boxed.alloc GC.out _);have c5c:=c5.cell;have c5f:=c5.frozen;have O5:=Zf o5;have G5:=Zf g5;have C5:=Zf c5;clear o5 g5 c5)));have hr5:=G5.out;have VX:=fun g e=>LB (b:=g) (LC GO.out.own (.cells #[.int .u8 kd,.int .i64 a,.int .i64 b0,.int .u8 ZU,.string ZI,.string ZJ,.int .u8 op2,.int .i64 lw2,.int .u64 lh2,.int .u64 ll2,.string ehd2,.string enm2,.int .i64 eh2,.int .i64 el2,.slice ep2 en2 ec2,.slice q2 ZW d2,.slice r2 ZX f2] 49)) e;have hIK:∀b cur fz,b1+3≤b→U.heap[b]?=some (.cells cur 45 fz)→(w5.setCell ⟨b1+1,0,none⟩ (.slice (some ⟨g6,0,none⟩) (l'.length+1) cap6)).heap[b]?=some (.cells cur 45 fz):=fun b cur fz hb hh=>by
   refine (Below.heap_setCell _ _ _ b asX).trans ((hr5.block b ?_ ?_).trans ?_)
   ·rw[World.size_alloc];have:=(Array.getElem?_eq_some_iff.1 hh).1;omega
   ·intro e
    obtain⟨_,cur2,h2⟩:=LB GO.out.own e.symm;rw[hh]at h2;simp only[Option.some.injEq,Obj.cells.injEq]at h2;exact absurd h2.2.1 asE
   ·exact (Below.heap_alloc U _ b (Array.getElem?_eq_some_iff.1 hh).1).trans hh
  have hb6:=G6.out;have q5:=O5.out;simp only[Zj,Zk,Zl]at q5;refine⟨((GK.out.trans ((KeepsOthers.alloc _ _).from _)).trans (KeepsFrom.grown hr5 fun g e=>by obtain⟨_,cur,h⟩:=VX g e;exact⟨_,_,_,h⟩)).trans ((KeepsOthers.setCell _ _ _).from _),((GR.out.trans (Kr.alloc _ _ _)).trans (Kr.grown hr5 fun g e=>by obtain⟨h1,cur,h⟩:=VX g e;exact⟨h1,_,_,h⟩)).trans (Kr.setCell _ _ _ rfl),((GQ.out.trans (Kq.alloc _ _ _)).trans (Kq.grown hr5 fun g e=>.inr (VX g e).1)).trans (Kq.setCell _ _ _ (.inl rfl)),_,Boxed.set _ C5.out,l'++[Ri.mk kd a b0 (.mk ZU ZI ZJ (.mk op2 ⟨lw2,lh2,ll2⟩ ehd2 enm2 eh2 el2 ep2 ec2 args2) q2 d2 sthn r2 f2 sels)],⟨by simp only[Zj,Zk,Zl];exact JJ q5 fun b cur hb _ _=>Below.heap_setCell _ _ _ b (by simp only;omega),fun j Xt r ZG hr=>?_,fun r hr=>?_⟩,by rw[Zj,HL.out];rfl⟩
  ·by_cases hj:j<l'.length
   ·rw[List.getElem?_append_left hj]at hr
    exact GO.out.like j Xt r ZG hr
   ·rw[List.getElem?_append_right asB]at hr
    obtain⟨rfl,rfl⟩:j=k∧r=Ri.mk kd a b0 (.mk ZU ZI ZJ (.mk op2 ⟨lw2,lh2,ll2⟩ ehd2 enm2 eh2 el2 ep2 ec2 args2) q2 d2 sthn r2 f2 sels):=by
     have hL:=HL.out;cases hjl:j-l'.length with
     | zero=>rw[hjl]at hr;exact⟨asB,by simpa using hr.symm⟩
     | succ i=>rw[hjl]at hr;simp at hr
    rw[HX.out]at ZG;obtain rfl:=Option.some.inj ZG;exact Gj.out _ rfl rfl rfl rfl rfl rfl hb3'.out
  ·rcases Zn.1 hr with hr|hr
   ·exact (GO.out.lies r hr).keep hIK
   ·obtain rfl:=List.mem_singleton.1 hr
    exact GI.out.keep hIK
 case done =>
  rintro D W hD ⟨h1,v,l,h2,h3,h4⟩ hK;have c2:=h2.cell;have hs:=IX.out;have hb:=Ib.out;gi_wp2;refine⟨asD,.inl ⟨_,_,rfl,run_takeDeferred hK,?_⟩⟩;have hko:=Ko.putObj (n:=w.heap.size) (.deferred none) hK rfl rfl asB;exact⟨_,dX _ v _ rfl,v,l,rfl,Yy ((IB.out.trans (h1.low _ asB (fun b h=>asB))).trans hko.low),h4,(h3.ko hko).base asB⟩
 case stop=>exact fun D W _ h _=>h.elim
end Go.Proofs.YtknmeggfokpbjaaGreat

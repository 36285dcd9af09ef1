/-
  WHAT IS PROVED HERE: a part of the proof (made narrower and merged by program; the parts: Zg Zh Zi Zk Zl Zm).
-/
import Derived.RangeFuncNested
import Derived.RangeFuncBound
import Derived.RangeFuncCalls
import Derived.RangeFuncLeaves
import Derived.OwnWalkIn
import Derived.TacticsInMore
import Derived.LoopNIn
import Derived.LoopIn
import Derived.Test.YtknmeggfokpbjaaGreatM14
set_option maxRecDepth 100000
set_option maxHeartbeats 8000000
set_option linter.all false
namespace Go.Proofs.YtknmeggfokpbjaaGreat
open Z
open Go.RowKit Go.Proofs.Tryz
open Below renaming refl→Zb
open Ending renaming returned→Zd
open Fence renaming wide→Ze
open Lib renaming hid→Zf
open List renaming getElem?_eq_some_iff→Zi,length_cons→Zk,length_nil→Zl,mem_of_getElem?→Zo
open Nat renaming le_refl→Zt,zero_le→Zw
open Go.Proofs.Tryz renaming prog→Zx
open Value renaming int→Zz
open World renaming cell?_setCell_other→ZA
open Go.RowKit
def Sn(p:Pr)(hd nm:ByteArray):Int:=if hd.toList==[] then Xv p.metas.l nm else X5 p (YF p.headers.l hd) nm
theorem ez(p:Pr)(w:World)(h:p.In w)(hz:p.sz≤1048576)(kd hd nm op lw lh ll ehd enm hi lo ep en ec tp tn tc up un uc):Kp Zx w 155 #[.agg #[.slice p.headers.p p.headers.l.length p.headers.cap,.slice p.metas.p p.metas.l.length p.metas.cap,.slice p.states.p p.states.l.length p.states.cap,.slice p.actions.p p.actions.l.length p.actions.cap,.slice p.tables.p p.tables.l.length p.tables.cap,.slice p.control.p p.control.l.length p.control.cap,.slice p.emit.p p.emit.l.length p.emit.cap],.agg #[.int .u8 kd,.string hd,.string nm,.int .u8 op,.int .i64 lw,.int .u64 lh,.int .u64 ll,.string ehd,.string enm,.int .i64 hi,.int .i64 lo,.slice ep en ec,.slice tp tn tc,.slice up un uc]] (.int .i64 (Sn p hd nm)):=by
 have ZL:=OM p w h hz hd;have ZT:=JP p w h hz (YF p.headers.l hd) nm;have Ys:=JQ p w h hz nm;obtain⟨R,hR⟩:=ZB (Sn p hd nm);rw[hR];unfold Sn at hR;generalize X5 p (YF p.headers.l hd) nm=I2 at ZT hR;generalize YF p.headers.l hd=I1 at ZL ZT;generalize Xv p.metas.l nm=I3 at Ys hR;replace hR:=Zf hR;intro y0;have ZL:=ZL.up y0;have ZT:=ZT.up y0;have Ys:=Ys.up y0;obtain⟨V,hV⟩:=ZB (plus w y0);simp only[hV]at ZL ZT Ys ⊢;clear hV h hz;have ZL':=Zf ZL;have ZT':=Zf ZT;have Ys':=Zf Ys;clear ZL ZT Ys;go_enter func155,ntmps155;open Z renaming adw→BM in exact wO
def PE(p:Pr)(act:Int)(kd:Int)(hd nm:ByteArray)(N:Int):Int :=
 if kd=1 then (if Sn p hd nm=-1 then 7 else N) else if kd=3 then (if act=-1 then (if Tp p.tables.l nm=-1 then 7 else 0) else 9) else if kd=6∨kd=7 then (if YF p.headers.l hd=-1 then 7 else 0) else N
theorem eE(p:Pr)(w:World)(h:p.In w)(hz:p.sz≤1048576)(act kd hd nm op lw lh ll ehd enm hi lo ep en ec tp tn tc up un uc N)(kN:Kp Zx w 94 #[.agg #[.slice p.headers.p p.headers.l.length p.headers.cap,.slice p.metas.p p.metas.l.length p.metas.cap,.slice p.states.p p.states.l.length p.states.cap,.slice p.actions.p p.actions.l.length p.actions.cap,.slice p.tables.p p.tables.l.length p.tables.cap,.slice p.control.p p.control.l.length p.control.cap,.slice p.emit.p p.emit.l.length p.emit.cap],.int .i64 act,.agg #[.int .u8 op,.int .i64 lw,.int .u64 lh,.int .u64 ll,.string ehd,.string enm,.int .i64 hi,.int .i64 lo,.slice ep en ec]] (.int .i64 N)):Kp Zx w 92 #[.agg #[.slice p.headers.p p.headers.l.length p.headers.cap,.slice p.metas.p p.metas.l.length p.metas.cap,.slice p.states.p p.states.l.length p.states.cap,.slice p.actions.p p.actions.l.length p.actions.cap,.slice p.tables.p p.tables.l.length p.tables.cap,.slice p.control.p p.control.l.length p.control.cap,.slice p.emit.p p.emit.l.length p.emit.cap],.int .i64 act,.agg #[.int .u8 kd,.string hd,.string nm,.int .u8 op,.int .i64 lw,.int .u64 lh,.int .u64 ll,.string ehd,.string enm,.int .i64 hi,.int .i64 lo,.slice ep en ec,.slice tp tn tc,.slice up un uc]] (.int .i64 (PE p act kd hd nm N)):=by
 have ZL:=ez p w h hz kd hd nm op lw lh ll ehd enm hi lo ep en ec tp tn tc up un uc;have ZT:=LF (Sn p hd nm) w;have Ys:=yD p w h hz nm;have YQ:=LF (Tp p.tables.l nm) w;have WF:=OM p w h hz hd;have Vz:=LF (YF p.headers.l hd) w;obtain⟨R,hR⟩:=ZB (PE p act kd hd nm N);rw[hR];unfold PE at hR;generalize Sn p hd nm=I1 at ZL ZT hR;generalize Tp p.tables.l nm=I2 at Ys YQ hR;generalize YF p.headers.l hd=I3 at WF Vz hR;generalize (if I2=-1 then (7:Int) else 0)=K2 at YQ hR;generalize (if I3=-1 then (7:Int) else 0)=K3 at Vz hR;have g1:=Zf (show kd=1→(if I1=-1 then 7 else N)=R from fun e=>by have t:=hR;rw[if_pos e]at t;exact t);have g3:=Zf (show kd=3→(if act=-1 then K2 else 9)=R from fun e=>by have t:=hR;rw[if_neg (show ¬kd=1 by omega),if_pos e]at t;exact t);have g6:=Zf (show kd=6∨kd=7→K3=R from fun e=>by have t:=hR;rw[if_neg (show ¬kd=1 by omega),if_neg (show ¬kd=3 by omega),if_pos e]at t;exact t);have g0:=Zf (show kd≠1→kd≠3→kd≠6→kd≠7→N=R from fun e1 e3 e6 e7=>by have t:=hR;rw[if_neg e1,if_neg e3,if_neg (show ¬(kd=6∨kd=7) by omega)]at t;exact t);clear hR;intro y0;have ZL:=ZL.up y0;have ZT:=ZT.up y0;have Ys:=Ys.up y0;have YQ:=YQ.up y0;have WF:=WF.up y0;have Vz:=Vz.up y0;have kN:=kN.up y0;obtain⟨V,hV⟩:=ZB (plus w y0);simp only[hV]at ZL ZT Ys YQ WF Vz kN ⊢;clear hV h hz;have ZL':=Zf ZL;have ZT':=Zf ZT;have Ys':=Zf Ys;have YQ':=Zf YQ;have WF':=Zf WF;have Vz':=Zf Vz;have kN':=Zf kN;clear ZL ZT Ys YQ WF Vz kN;go_enter func92,ntmps92;open Z renaming adx→BM in exact wO
theorem yE(m)(A:Sl ByteArray)(k:Nat)(s:ByteArray)(hs:A.l[k]?=some s)(w:World)(hA:A.In w 1 V1 V2)(hl:A.l.length≤1048576):Kp Zx w 95 #[.int .i64 m,A.v,.int .i64 (k:Int)] (.int .i64 (if m=-1 then 7 else if XT A.l s=(k:Int) then 0 else 8)):=by
 intro y0;have ZL:=(LF m w).up y0;have ZT:=(F1 V2 A s w hA hl).up y0;have Ys:=(Px (XT A.l s) (k:Int) w).up y0;have hr:=hA.row.plus y0;obtain⟨V,hV⟩:=ZB (plus w y0);rw[hV]at ZL ZT Ys hr ⊢;clear hV hA;obtain⟨pa,ha,hc⟩:=hr k s hs;have hk:k<A.l.length:=(Zi.1 hs).1;obtain⟨ap,ac,al⟩:=A;simp only[Sl.v]at ha hk ZT Ys hl ⊢;subst ha;generalize XT al s=I at ZT Ys ⊢;generalize (if I=(k:Int) then (0:Int) else 8)=K at Ys ⊢;have d0:=fun y=>(hc.plus y).c0 _ rfl;simp only[Nat.mul_one]at d0;obtain⟨n,hn⟩:=ZB al.length;rw[hn]at hk ZT ⊢;have ZL':=Zf ZL.pure;have ZT':=Zf ZT.pure;have Ys':=Zf Ys.pure;have e0:=d0 ⟨#[],V.drawn⟩;rw[Yk]at e0;have hV:=Yk V;have hV2:=Zf hV;clear ZL ZT Ys hr hc hs hn hl hV;go_enter func95,ntmps95;by_cases hm:m=-1
 ·subst hm
  rw[if_pos rfl]at ZL';rw[if_pos rfl];clear ZT' Ys';rw[←hV2.out];go_wp2_with (first|(go_at_call 86;with_reducible refine (ZL'.out _).mono ?_;rintro r w' ⟨rfl,x,rfl⟩));go_ret;exact⟨rfl,_,rfl⟩
 ·rw[if_neg hm]at ZL'
  rw[if_neg hm];clear hm;rw[←hV2.out];go_wp2_with (first|(go_at_call 86;with_reducible refine (ZL'.out _).mono ?_;rintro r w' ⟨rfl,x,rfl⟩)|(go_at_call 162;with_reducible refine (ZT'.out _).mono ?_;rintro r w' ⟨rfl,x,rfl⟩)|(go_at_call 82;with_reducible refine (Ys'.out _).mono ?_;rintro r w' ⟨rfl,x,rfl⟩));go_ret;exact⟨rfl,_,rfl⟩
theorem XW{W W2:World}{z:ZH}{a:Addr}{v:Option Value}(hz:W2=plus W z)(h:∀y,(plus W y).cell? a=v):∀y,(plus W2 y).cell? a=v:=fun y=>by rw[hz,ZD];exact h _
def Mo(p:Pr)(k:Nat)(x:Hr):Int:=if YF p.headers.l x.name=(k:Int) then (if (V5 x.fields.l).tmod 8=0∧V5 x.fields.l≤256 then 0 else 10) else 8
theorem eC(p:Pr)(w:World)(h:p.In w)(hz:p.sz≤1048576)(k:Nat)(x:Hr)(hx:p.headers.l[k]?=some x):Kp Zx w 81 #[.agg #[.slice p.headers.p p.headers.l.length p.headers.cap,.slice p.metas.p p.metas.l.length p.metas.cap,.slice p.states.p p.states.l.length p.states.cap,.slice p.actions.p p.actions.l.length p.actions.cap,.slice p.tables.p p.tables.l.length p.tables.cap,.slice p.control.p p.control.l.length p.control.cap,.slice p.emit.p p.emit.l.length p.emit.cap],.int .i64 (k:Int)] (.int .i64 (Mo p k x)):=by
 intro y0;have ZV:=Zo hx;have XQ:x.fields.l.length≤1048576:=by
  have h1:=YW Hr.sz p.headers.l x ZV;open Z renaming aeS→NL in exact Mr
 have ZL:=(OM p w h hz x.name).up y0;have ZT:=(Px (YF p.headers.l x.name) (k:Int) w).up y0;have Ys:=(ev x.name x.fields w _ (h.headers.kids x ZV).fields XQ).up y0;have hr:=h.headers.row.plus y0;have Ua:k<p.headers.l.length:=(Zi.1 hx).1;obtain⟨V,hV⟩:=ZB (plus w y0);rw[hV]at ZL ZT Ys hr ⊢;clear hV h hz XQ;obtain⟨R,hR⟩:=ZB (Mo p k x);rw[hR];unfold Mo at hR;obtain⟨pa,ha,hc⟩:=hr k x hx;obtain⟨A,hA⟩:=ZB p.headers;simp only[hA]at ZL ZT hR ha Ua ⊢;clear hA hx ZV hr;obtain⟨ap,ac,al⟩:=A;simp only at ha;subst ha;simp only at Ua hR ZL ZT ⊢;generalize YF al x.name=I at ZL ZT hR;generalize V5 x.fields.l=B at Ys hR;obtain⟨n,hn⟩:=ZB al.length;rw[hn]at Ua ZL ⊢;clear hn;obtain⟨xn,⟨fp,fc,fl⟩⟩:=x;simp only[Hr.cells,Sl.v]at hc ZL Ys;have d0:=fun y=>(hc.plus y).c0 _ rfl;have d1:=fun y=>(hc.plus y).cs 0 _ rfl;have Yo:=Zf hc;have ZL':=Zf ZL;have ZT':=Zf ZT;have Ys':=Zf Ys;have ZR:=Zf hR;clear hc ZL ZT Ys hR d0 d1;go_enter func81,ntmps81;go_upto_region 1 with (fail)
 obtain⟨U,hU,hB,-,cp,-⟩:=WS V _ 30;rw[←hU];obtain⟨WH,hz0⟩:=Yy hB;open Z renaming aey→K0 in exact Ir
def SU(names:List ByteArray)(dn:ByteArray)(args params:Nat):Int:=if XT names dn=-1 then 7 else if args<params then 13 else if params<args then 5 else 0
theorem eA(p:Pr)(w:World)(tn kp kn kc)(L:Sl ByteArray)(dn:ByteArray)(gp gn gc)(hL:L.In w 1 V1 V2)(hl:L.l.length≤1048576)(X8:XT L.l dn=-1) :
  Kp Zx w 96 #[.agg #[.slice p.headers.p p.headers.l.length p.headers.cap,.slice p.metas.p p.metas.l.length p.metas.cap,.slice p.states.p p.states.l.length p.states.cap,.slice p.actions.p p.actions.l.length p.actions.cap,.slice p.tables.p p.tables.l.length p.tables.cap,.slice p.control.p p.control.l.length p.control.cap,.slice p.emit.p p.emit.l.length p.emit.cap],.agg #[.string tn,.slice kp kn kc,L.v,.string dn,.slice gp gn gc]] (.int .i64 7):=by
 have ZL:=F1 V2 L dn w hL hl;rw[X8]at ZL;obtain⟨lp,lc,ll⟩:=L;simp only[Sl.v]at ZL ⊢;generalize ll.length=n at ZL ⊢;intro y0;have ZL:=ZL.up y0;obtain⟨V,hV⟩:=ZB (plus w y0);simp only[hV]at ZL ⊢;clear hV hL hl X8;have ZL':=Zf ZL;clear ZL;go_enter func96,ntmps96;go_upto_region 1 with (fail)
 obtain⟨W,yy,hW,⟨z,ZG⟩,cp,ct⟩:=Xu V _ _ 30 58;open Z renaming akG→GS in exact Dr
theorem eB(p:Pr)(w:World)(h:p.In w)(hz:p.sz≤1048576)(tn kp kn kc)(L:Sl ByteArray)(dn:ByteArray)(gp gn gc)(hL:L.In w 1 V1 V2)(hl:L.l.length≤1048576)(X8:XT L.l dn≠-1)(k:Nat)(x:Ac)(hk:XD p.actions.l dn=(k:Int))(hx:p.actions.l[k]?=some x) :
  Kp Zx w 96 #[.agg #[.slice p.headers.p p.headers.l.length p.headers.cap,.slice p.metas.p p.metas.l.length p.metas.cap,.slice p.states.p p.states.l.length p.states.cap,.slice p.actions.p p.actions.l.length p.actions.cap,.slice p.tables.p p.tables.l.length p.tables.cap,.slice p.control.p p.control.l.length p.control.cap,.slice p.emit.p p.emit.l.length p.emit.cap],.agg #[.string tn,.slice kp kn kc,L.v,.string dn,.slice gp gn gc]] (.int .i64 (SU L.l dn gn x.params.l.length)):=by
 intro y0;have ZL:=(F1 V2 L dn w hL hl).up y0;have ZT:=(JO p w h hz dn).up y0;rw[hk]at ZT;have hr:=h.actions.row.plus y0;have Ua:k<p.actions.l.length:=(Zi.1 hx).1;have YB:x.params.l.length≤1048576:=by
  have h1:=YW Ac.sz p.actions.l x (Zo hx);open Z renaming aeT→NL in exact Mr
 obtain⟨V,hV⟩:=ZB (plus w y0);rw[hV]at ZL ZT hr ⊢;clear hV h hz hL hl;obtain⟨R,hR⟩:=ZB (SU L.l dn gn x.params.l.length);rw[hR];unfold SU at hR;rw[if_neg X8]at hR;obtain⟨pa,ha,hc⟩:=hr k x hx;obtain⟨A,hA⟩:=ZB p.actions;simp only[hA]at ZT ha Ua ⊢;clear hA hx hr hk;obtain⟨ap,ac,al⟩:=A;simp only at ha;subst ha;simp only at Ua ZT ⊢;obtain⟨lp,lc,ll⟩:=L;simp only[Sl.v]at ZL X8 ⊢;generalize XT ll dn=I at ZL X8;generalize ll.length=m at ZL ⊢;generalize al.length=n at Ua ZT ⊢;obtain⟨xn,⟨xp,xc,xl⟩,xb⟩:=x;simp only at hR YB;simp only[Ac.cells,Sl.v]at hc;generalize xl.length=j at hR YB hc;have i1:(I==-1)=false:=by simpa using X8
 have ZL':=Zf ZL;have ZT':=Zf ZT;have Yo:=Zf hc;have ZR:=Zf hR;clear hc ZL ZT hR X8;go_enter func96,ntmps96;go_upto_region 1 with (fail)
 obtain⟨W,yy,hW,⟨z,ZG⟩,cp,ct⟩:=Xu V _ _ 30 58;rw[hW];open Z renaming aez→K0 in exact Ir
def PD(p:Pr)(s:Sa):Int:=if s.keys.l.length=0 then (if (W9 p.states.l s.tX9).2 then 0 else 7) else if s.keys.l.all (Ex.there (YP p (-1))) then 0 else 7
theorem eD(p:Pr)(w:World)(h:p.In w)(hz:p.sz≤1048576)(s:Sa)(hs:s.In w)(YB:s.sz≤1048576):Kp Zx w 88 #[.agg #[.slice p.headers.p p.headers.l.length p.headers.cap,.slice p.metas.p p.metas.l.length p.metas.cap,.slice p.states.p p.states.l.length p.states.cap,.slice p.actions.p p.actions.l.length p.actions.cap,.slice p.tables.p p.tables.l.length p.tables.cap,.slice p.control.p p.control.l.length p.control.cap,.slice p.emit.p p.emit.l.length p.emit.cap],.agg s.cells.toArray] (.int .i64 (PD p s)):=by
 intro y0;have ZL:=(yF p w h hz s.tX9).up y0;have lK:s.keys.l.length≤1048576:=Xk Ex.wt Ex.wt_pos s.keys (n:=1048576) (by unfold Sa.sz at YB;omega);have kN:∀x∈s.keys.l,Kp Zx w 94 #[.agg #[.slice p.headers.p p.headers.l.length p.headers.cap,.slice p.metas.p p.metas.l.length p.metas.cap,.slice p.states.p p.states.l.length p.states.cap,.slice p.actions.p p.actions.l.length p.actions.cap,.slice p.tables.p p.tables.l.length p.tables.cap,.slice p.control.p p.control.l.length p.control.cap,.slice p.emit.p p.emit.l.length p.emit.cap],.int .i64 (-1),.agg x.cells.toArray] (.int .i64 (if x.there (YP p (-1)) then 0 else 7)):=fun x hx=>by
  have h1:=YW Ex.wt s.keys.l x hx;have h2:s.keys.size Ex.wt=(s.keys.l.map Ex.wt).sum:=rfl;unfold Sa.sz at YB;exact JR p w h hz (-1) x (hs.keys.kids x hx) asB
 have kN:=fun x hx=>(kN x hx).up y0;have hr:=hs.keys.row.plus y0;obtain⟨V,hV⟩:=ZB (plus w y0);simp only[hV]at ZL kN hr ⊢;clear hV h hz hs YB;obtain⟨R,hR⟩:=ZB (PD p s);rw[hR];unfold PD at hR;obtain⟨sn,⟨tp,tc,tl⟩,st,⟨kp,kc,kl⟩,⟨cp,cc,cl⟩⟩:=s;simp only[Sa.cells,Sl.v]at ZL kN hr hR lK ⊢;generalize (if (W9 p.states.l st).2=true then (0:Int) else 7)=K1 at ZL hR;obtain⟨n,hn⟩:=ZB kl.length;rw[hn]at hR lK ⊢;generalize YP p (-1)=B at kN hR;have ZL':=Zf ZL;have kN':=Zf kN;have XV:=Zf hr;have ZR:=Zf hR;have ZO:=Zf hn;have lK':=Zf lK;clear ZL kN hr hR hn lK;go_enter func88,ntmps88;go_upto_region 1 with (fail)
 obtain⟨W,yy,hW,⟨z,ZG⟩,cp',ct⟩:=Xu V _ _ 30 61;rw[hW];have ep0:=cp' 0 _ rfl;have ep1:=cp' 1 _ rfl;have ep2:=cp' 2 _ rfl;have ep3:=cp' 3 _ rfl;have ep4:=cp' 4 _ rfl;have ep5:=cp' 5 _ rfl;have ep6:=cp' 6 _ rfl;have et0:=ct 0 _ rfl;have et1:=ct 1 _ rfl;have et2:=ct 2 _ rfl;have et3:=ct 3 _ rfl;have et4:=ct 4 _ rfl;have q1:=Zf (ZK ZG ZL'.out);have TB:=Zf (fun k x (hx:kl[k]?=some x)=>(show ∃pa,kp=some pa∧Yg W (pa.add (k*9)) x.cells by
  obtain⟨pa,e,hc⟩:=XV.out k x hx;exact⟨pa,e,YR ZG hc⟩))
 have qN:=Zf (fun x hx=>ZK ZG (kN'.out x hx));have ZY:=Zf ZG;clear hW ZG cp' ct XV ZL' kN';by_cases n0:n=0
 ·have hR:=Zf (show K1=R by rw[←ZR.out,if_pos n0])
  subst n0;clear ZR TB qN;go_wp2_with (first|(go_at_call 89;with_reducible refine (q1.out _).mono ?_;rintro r w' ⟨rfl,x,rfl⟩));exact QE
 have h0:Hid ((if (kl.drop 0).all (Ex.there B)=true then (0:Int) else 7)=R):=Zf (by rw[←ZR.out,if_neg n0];rfl);have n1:((n:Int)==0)=false:=by simpa using n0
 clear ZR q1;go_upto_region 4 with (fail)
 have ea0:=fun (y:ZH) (X:Obj)=>YG (v:=.slice p.headers.p p.headers.l.length p.headers.cap) (ep0 y) X;have ea1:=fun (y:ZH) (X:Obj)=>YG (v:=.slice p.metas.p p.metas.l.length p.metas.cap) (ep1 y) X;have ea2:=fun (y:ZH) (X:Obj)=>YG (v:=.slice p.states.p p.states.l.length p.states.cap) (ep2 y) X;have ea3:=fun (y:ZH) (X:Obj)=>YG (v:=.slice p.actions.p p.actions.l.length p.actions.cap) (ep3 y) X;have ea4:=fun (y:ZH) (X:Obj)=>YG (v:=.slice p.tables.p p.tables.l.length p.tables.cap) (ep4 y) X;have ea5:=fun (y:ZH) (X:Obj)=>YG (v:=.slice p.control.p p.control.l.length p.control.cap) (ep5 y) X;have ea6:=fun (y:ZH) (X:Obj)=>YG (v:=.slice p.emit.p p.emit.l.length p.emit.cap) (ep6 y) X;go_loopw [6,7,19] (fun _ _ iv wr=>∃k:Nat,k≤n∧iv=.int .i64 (k:Int)∧Hid ((if (kl.drop k).all (Ex.there B)=true then (0:Int) else 7)=R)∧∃y,wr=plus W y) (fun _ _ iv _=>n-(intOf iv).toNat)
 case atStart=>exact⟨0,Zw _,rfl,h0,_,rfl⟩
 case round =>
  obtain⟨k,hk,rfl,hs,y,rfl⟩:=hrel;by_cases ZC:k<n
  ·obtain⟨a,ha⟩:=Yq kl k asG
   obtain⟨pa,rfl,Yv⟩:=TB.out k a ha;have ZQ:(if (a.there B&&(kl.drop (k+1)).all (Ex.there B))=true then (0:Int) else 7)=R:=by rw[←U9 (Ex.there B) kl k a ha];exact hs.out
   have q2:=qN.out a (Zo ha);generalize a.there B=b at q2 ZQ;have q2':=Zf q2;have a6:=Zf (Y7 k n ZC lK'.out);obtain⟨XR,⟨alw,alh,all⟩,ahd,anm,ahi,alo,ap,acap,aargs⟩:=a;simp only[Ex.cells,Ex.op,Ex.lit,Ex.head,Ex.name,Ex.hi,Ex.lo,Ex.p,Ex.cap,Ex.args]at Yv q2';open Z renaming ao8→Rk in exact Ru
  ·obtain rfl:k=n:=by omega
   have hR:=Zf (show (0:Int)=R by
    rw[←hs.out,List.drop_of_length_le asV];rfl)
   clear hs ZC hk h0;exact EW
open Go.RowKit Go.Shelf
structure Kq (S:Nat→Prop) (W W':World):Prop where
 size:W.heap.size≤W'.heap.size
 cell:∀a v,¬S a.block→W.cell? a=some v→W'.cell? a=some v
 low:∀B,B≤W.heap.size→(∀b,S b→B≤b)→Below B W W'
theorem Kq.refl(S:Nat→Prop)(W:World):Kq S W W:=⟨Zt _,fun _ _ _ h=>h,fun B _ _=>Zb B W⟩
theorem Kq.trans{S:Nat→Prop}{A B C:World}(h:Kq S A B)(k:Kq S B C):Kq S A C:=⟨Nat.le_trans h.size k.size,fun a v hs hv=>k.cell a v hs (h.cell a v hs hv),fun b hb hs=>(h.low b hb hs).trans (k.low b (Nat.le_trans hb h.size) hs)⟩
theorem Kq.plus(S:Nat→Prop)(W:World)(y:ZH):Kq S W (plus W y):=⟨by have:=XZ W y;omega,fun _ _ _ h=>ZS h y,fun _ hb _=>(Xl W y).mono hb⟩
theorem Kq.alloc(S:Nat→Prop)(W:World)(o:Obj):Kq S W (W.alloc o):=⟨asD,fun _ _ _ h=>YG h o,fun B hb _=>(Zb B W).alloc hb o⟩
theorem Kq.setCell{S:Nat→Prop}(W:World)(p:Addr)(v:Value)(h:S p.block):Kq S W (W.setCell p v):=⟨by rw[World.size_setCell];exact Zt _,fun a u hs hv=>(ZA _ _ _ _ (fun e=>hs (by first|(rw[e];exact h)|(rw[←e];exact h)))).trans hv,fun B _ hs=>(Zb B W).setCell (hs _ h) v⟩
section
variable {S:Nat→Prop} {w W:World} (hk:Kq S w W) (hS:∀b,S b→w.heap.size≤b)
include hk hS
theorem jr{a:Addr}{v:Value}(h:w.cell? a=some v):W.cell? a=some v:=hk.cell a v (fun hs=>by
 have h1:=hS _ hs;have h2:=World.block_lt_of_cell? w a h;omega) h
theorem JC{a:Addr}{cs:List Value}(h:Yg w a cs):Yg W a cs:=fun j v hj=>jr hk hS (h j v hj)
theorem JD{α:Type}{C:Nat}{cells:α→List Value}{p:Option Addr}{l:List α}(h:Xa w C cells p l):Xa W C cells p l:=fun i y hi=>by
 obtain⟨a,ha,hc⟩:=h i y hi;exact⟨a,ha,JC hk hS hc⟩
theorem Tk{α:Type}{C:Nat}{cells:α→List Value}{In In':α→Prop}{s:Sl α}(h:s.In w C cells In)(hi:∀y,In y→In' y):s.In W C cells In' :=
 ⟨h.len,h.cap,JD hk hS h.row,fun y hy=>hi y (h.kids y hy)⟩
theorem Fi:∀{e:Ex},e.In w→e.In W:=fun {e} h=>by
 induction h with
 | mk e op lit hi lo hd nm len cap row _ ih=>exact .mk e op lit hi lo hd nm len cap (JD hk hS row) ih
omit hk hS in
theorem Fj{x:Fd}(h:x.In w):x.In W:=⟨h.name,h.w⟩
theorem jv{x:Hr}(h:x.In w):x.In W:=⟨h.name,Tk hk hS h.fields (fun _ a=>Fj a)⟩
omit hk hS in
theorem jA{x:Se}(h:x.In w):x.In W:=⟨h.kind,h.v,h.m⟩
theorem jq{x:Ca}(h:x.In w):x.In W:=⟨h.dflt,Tk hk hS h.sets (fun _ a=>jA a),h.tX9⟩
theorem jx{x:Sa}(h:x.In w):x.In W:=⟨h.name,Tk hk hS h.takes (fun _ a=>a),h.tX9,Tk hk hS h.keys (fun _ a=>Fi hk hS a),Tk hk hS h.cases (fun _ a=>jq hk hS a)⟩
theorem zL:∀{s:St},s.In w→s.In W:=fun {s} h=>by
 induction h with
 | mk s k hd nm e l c r _ l2 c2 r2 _ ih ih2=>exact .mk s k hd nm (Fi hk hS e) l c (JD hk hS r) ih l2 c2 (JD hk hS r2) ih2
theorem jp{x:Ac}(h:x.In w):x.In W:=⟨h.name,Tk hk hS h.params (fun _ a=>Fj a),Tk hk hS h.body (fun _ a=>zL hk hS a)⟩
theorem jw{x:Ke}(h:x.In w):x.In W:=⟨Fi hk hS h.e,h.kind⟩
theorem ju{x:Cl}(h:x.In w):x.In W:=⟨h.name,Tk hk hS h.args (fun _ a=>a)⟩
theorem jB{x:Ta}(h:x.In w):x.In W:=⟨h.name,Tk hk hS h.keys (fun _ a=>jw hk hS a),Tk hk hS h.actions (fun _ a=>a),ju hk hS h.dflt⟩
theorem zK{x:Pr}(h:x.In w):x.In W:=⟨Tk hk hS h.headers (fun _ a=>jv hk hS a),Tk hk hS h.metas (fun _ a=>Fj a),Tk hk hS h.states (fun _ a=>jx hk hS a),Tk hk hS h.actions (fun _ a=>jp hk hS a),Tk hk hS h.tables (fun _ a=>jB hk hS a),Tk hk hS h.control (fun _ a=>zL hk hS a),Tk hk hS h.emit (fun _ a=>a)⟩
end
def XA(S:Nat→Prop)(J Jx:Nat→World→Prop)(k m:Nat)(W:World)(e:Ending)(W':World):Prop :=
 (e=.returned (.bool true)∧J (k+m) W'∧Kq S W W')∨(e=.returned (.bool false)∧∃i,Jx i W')
def VF(J:Nat→World→Prop):Prop:=∀k W y,J k W→J k (plus W y)
def Cj{α:Type}(P:Program)(l:Nat)(encs:α→Value)(xs:List α)(S:Nat→Prop)(J Jx:Nat→World→Prop):Prop :=
 ∀(k:Nat) (x:α) (W:World),xs[k]?=some x→J k W→YieldAt Ze 0 P l #[encs x] W (XA S J Jx k 1 W)
theorem F4{m m':Nat}{P:Program}{l:Nat}{f:FuncId}{tmps:Array Value}{assign body:Code}{w:World}{R:Ending→World→Prop}(h:RoundIn Ze m P l f tmps assign body w R):RoundIn Ze m' P l f tmps assign body w R :=
 ⟨h.1,fun c cs _=>h.2 c cs (room_wide _)⟩
theorem HK{m m':Nat}{P:Program}{f:FuncId}{args:Array Value}{w:World}{R:Ending→World→Prop}(h:CallsIn Ze m P f args w R):CallsIn Ze m' P f args w R:=callsIn_wide.2 (callsIn_wide.1 h)
theorem KN(k:Nat):Ze.depth.isSome=true→1≤k:=fun h=>asT
open Go.RowKit Go.Shelf
attribute [local go_sem] Oper.semAt_some
def RL(kind a b:Int):Value:=.agg #[.int .u8 kind,.int .i64 a,.int .i64 b,.int .u8 0,.string ⟨#[]⟩,.string ⟨#[]⟩,.int .u8 0,.int .i64 0,.int .u64 0,.int .u64 0,.string ⟨#[]⟩,.string ⟨#[]⟩,.int .i64 0,.int .i64 0,.slice none 0 0,.slice none 0 0,.slice none 0 0]
abbrev yv(l:Nat):Value:=.func (.yield l) #[] #[]
theorem Pu(l:Nat)(kind a:Int)(S:Nat→Prop)(J Jx:Nat→World→Prop)(k:Nat)(W:World)(hy:YieldAt Ze 0 Zx l #[RL kind a 0] W (XA S J Jx k 1 W)) :
  CallsIn Ze 0 Zx 71 #[yv l,.int .u8 kind,.int .i64 a] W (XA S J Jx k 1 W):=by
 exact vV
theorem XA.trans{S:Nat→Prop}{J Jx:Nat→World→Prop}{k m n:Nat}{A B:World}{e:Ending}{C:World}(hk:Kq S A B)(h:XA S J Jx (k+m) n B e C):XA S J Jx k (m+n) A e C:=by
 exact vX
theorem Mb(l:Nat)(kind a:Int)(n:Nat)(hn:n≤1048576)(S:Nat→Prop)(J Jx:Nat→World→Prop)(k:Nat)(W:World)(hy:∀j W1,j<n→J (k+j) W1→YieldAt Ze 0 Zx l #[RL kind a (j:Int)] W1 (XA S J Jx (k+j) 1 W1))(h0:J k W) :
  CallsIn Ze 0 Zx 144 #[yv l,.int .u8 kind,.int .i64 a,.int .i64 (n:Int)] W (XA S J Jx k n W):=by
 open Z renaming ahW→Ap in exact ud
open Go.RowKit Go.Shelf
attribute [local go_sem] Oper.semAt_some
def Xd{α:Type}(m:α→Nat)(l:List α)(i:Nat):Nat:=((l.take i).map m).sum
theorem EA{α:Type}(m:α→Nat)(l:List α):Xd m l 0=0:=by simp[Xd]
theorem Ih{α:Type}(m:α→Nat)(l:List α)(i:Nat)(x:α)(h:l[i]?=some x):Xd m l (i+1)=Xd m l i+m x:=Ej m l i x h
theorem aaN{α:Type}(m:α→Nat)(l:List α)(i:Nat)(h:l.length=i):Xd m l i=(l.map m).sum:=by unfold Xd;rw[List.take_of_length_le (by omega)]
theorem UB{J:Nat→World→Prop}(h:VF J){k:Nat}{W:World}(hJ:J k W)(o:Obj):J k (W.alloc o):=by
 obtain⟨x,hx⟩:=Yy ((Zb W.heap.size W).alloc (Zt _) o);rw[hx];exact h k W x hJ
theorem lg{α:Type}(cells:α→List Value)(hC:∀x,LL (cells x))(m:α→Nat)(g:FuncId)(first caps:Array Value)(K:α→Prop)(S:Nat→Prop)(J Jx:Nat→World→Prop)(hJ:VF J)(w:World)(hS:∀b,S b→w.heap.size≤b)(A:Sl α)(hA:A.In w 2 cells K)(hl:A.l.length≤1048576)(Xb:∀args w,(callFunc g args).run Zx w=.ok (.enter g args) w)(Ym:Nat)(W:World)(hw:Kq S w W)(hb:∀b,S b→b<W.heap.size)(h0:J Ym W)(hf:∀(i:Nat) (x:α) (W1:World),A.l[i]?=some x→Kq S W W1→J (Ym+Xd m A.l i) W1→CallsIn Ze 0 Zx g (first++(#[.int .i64 (i:Int),.agg (cells x).toArray]++caps)) W1 (XA S J Jx (Ym+Xd m A.l i) (m x) W1)) :
  CallsIn Ze 0 Zx 67 #[A.v,.func (.func g) first caps] W (XA S J Jx Ym ((A.l.map m).sum) W):=by
 open Z renaming aoc→Rj in exact Rt
theorem ld{α:Type}(cells:α→List Value)(hC:∀x,LK (cells x))(m:α→Nat)(g:FuncId)(first caps:Array Value)(K:α→Prop)(S:Nat→Prop)(J Jx:Nat→World→Prop)(hJ:VF J)(w:World)(hS:∀b,S b→w.heap.size≤b)(A:Sl α)(hA:A.In w 2 cells K)(hl:A.l.length≤1048576)(Xb:∀args w,(callFunc g args).run Zx w=.ok (.enter g args) w)(Ym:Nat)(W:World)(hw:Kq S w W)(hb:∀b,S b→b<W.heap.size)(h0:J Ym W)(hf:∀(i:Nat) (x:α) (W1:World),A.l[i]?=some x→Kq S W W1→J (Ym+Xd m A.l i) W1→CallsIn Ze 0 Zx g (first++(#[.int .i64 (i:Int),.agg (cells x).toArray]++caps)) W1 (XA S J Jx (Ym+Xd m A.l i) (m x) W1)) :
  CallsIn Ze 0 Zx 69 #[A.v,.func (.func g) first caps] W (XA S J Jx Ym ((A.l.map m).sum) W):=by
 open Z renaming aod→Rj in exact Rt
theorem lj{α:Type}(cells:α→List Value)(hC:∀x,LM (cells x))(m:α→Nat)(g:FuncId)(first caps:Array Value)(K:α→Prop)(S:Nat→Prop)(J Jx:Nat→World→Prop)(hJ:VF J)(w:World)(hS:∀b,S b→w.heap.size≤b)(A:Sl α)(hA:A.In w 5 cells K)(hl:A.l.length≤1048576)(Xb:∀args w,(callFunc g args).run Zx w=.ok (.enter g args) w)(Ym:Nat)(W:World)(hw:Kq S w W)(hb:∀b,S b→b<W.heap.size)(h0:J Ym W)(hf:∀(i:Nat) (x:α) (W1:World),A.l[i]?=some x→Kq S W W1→J (Ym+Xd m A.l i) W1→CallsIn Ze 0 Zx g (first++(#[.int .i64 (i:Int),.agg (cells x).toArray]++caps)) W1 (XA S J Jx (Ym+Xd m A.l i) (m x) W1)) :
  CallsIn Ze 0 Zx 72 #[A.v,.func (.func g) first caps] W (XA S J Jx Ym ((A.l.map m).sum) W):=by
 open Z renaming aoe→Rj in exact Rt
theorem m8{α:Type}(cells:α→List Value)(hC:∀x,LJ (cells x))(m:α→Nat)(g:FuncId)(first caps:Array Value)(K:α→Prop)(S:Nat→Prop)(J Jx:Nat→World→Prop)(hJ:VF J)(w:World)(hS:∀b,S b→w.heap.size≤b)(A:Sl α)(hA:A.In w 3 cells K)(hl:A.l.length≤1048576)(Xb:∀args w,(callFunc g args).run Zx w=.ok (.enter g args) w)(Ym:Nat)(W:World)(hw:Kq S w W)(hb:∀b,S b→b<W.heap.size)(h0:J Ym W)(hf:∀(i:Nat) (x:α) (W1:World),A.l[i]?=some x→Kq S W W1→J (Ym+Xd m A.l i) W1→CallsIn Ze 0 Zx g (first++(#[.int .i64 (i:Int),.agg (cells x).toArray]++caps)) W1 (XA S J Jx (Ym+Xd m A.l i) (m x) W1)) :
  CallsIn Ze 0 Zx 74 #[A.v,.func (.func g) first caps] W (XA S J Jx Ym ((A.l.map m).sum) W):=by
 open Z renaming aof→Rj in exact Rt
theorem lr{α:Type}(cells:α→List Value)(hC:∀x,LN (cells x))(m:α→Nat)(g:FuncId)(first caps:Array Value)(K:α→Prop)(S:Nat→Prop)(J Jx:Nat→World→Prop)(hJ:VF J)(w:World)(hS:∀b,S b→w.heap.size≤b)(A:Sl α)(hA:A.In w 5 cells K)(hl:A.l.length≤1048576)(Xb:∀args w,(callFunc g args).run Zx w=.ok (.enter g args) w)(Ym:Nat)(W:World)(hw:Kq S w W)(hb:∀b,S b→b<W.heap.size)(h0:J Ym W)(hf:∀(i:Nat) (x:α) (W1:World),A.l[i]?=some x→Kq S W W1→J (Ym+Xd m A.l i) W1→CallsIn Ze 0 Zx g (first++(#[.int .i64 (i:Int),.agg (cells x).toArray]++caps)) W1 (XA S J Jx (Ym+Xd m A.l i) (m x) W1)) :
  CallsIn Ze 0 Zx 76 #[A.v,.func (.func g) first caps] W (XA S J Jx Ym ((A.l.map m).sum) W):=by
 open Z renaming aog→Rj in exact Rt
theorem lm{α:Type}(cells:α→List Value)(hC:∀x,J4 (cells x))(m:α→Nat)(g:FuncId)(first caps:Array Value)(K:α→Prop)(S:Nat→Prop)(J Jx:Nat→World→Prop)(hJ:VF J)(w:World)(hS:∀b,S b→w.heap.size≤b)(A:Sl α)(hA:A.In w 14 cells K)(hl:A.l.length≤1048576)(Xb:∀args w,(callFunc g args).run Zx w=.ok (.enter g args) w)(Ym:Nat)(W:World)(hw:Kq S w W)(hb:∀b,S b→b<W.heap.size)(h0:J Ym W)(hf:∀(i:Nat) (x:α) (W1:World),A.l[i]?=some x→Kq S W W1→J (Ym+Xd m A.l i) W1→CallsIn Ze 0 Zx g (first++(#[.int .i64 (i:Int),.agg (cells x).toArray]++caps)) W1 (XA S J Jx (Ym+Xd m A.l i) (m x) W1)) :
  CallsIn Ze 0 Zx 145 #[A.v,.func (.func g) first caps] W (XA S J Jx Ym ((A.l.map m).sum) W):=by
 open Z renaming aoh→Rj in exact Rt
theorem lu(m:ByteArray→Nat)(g:FuncId)(first caps:Array Value)(K:ByteArray→Prop)(S:Nat→Prop)(J Jx:Nat→World→Prop)(hJ:VF J)(w:World)(hS:∀b,S b→w.heap.size≤b)(A:Sl ByteArray)(hA:A.In w 1 V1 K)(hl:A.l.length≤1048576)(Xb:∀args w,(callFunc g args).run Zx w=.ok (.enter g args) w)(Ym:Nat)(W:World)(hw:Kq S w W)(hb:∀b,S b→b<W.heap.size)(h0:J Ym W)(hf:∀(i:Nat) (x:ByteArray) (W1:World),A.l[i]?=some x→Kq S W W1→J (Ym+Xd m A.l i) W1→CallsIn Ze 0 Zx g (first++(#[.int .i64 (i:Int),.string x]++caps)) W1 (XA S J Jx (Ym+Xd m A.l i) (m x) W1)) :
  CallsIn Ze 0 Zx 79 #[A.v,.func (.func g) first caps] W (XA S J Jx Ym ((A.l.map m).sum) W):=by
 open Z renaming aoo→zx in exact pz
end Go.Proofs.YtknmeggfokpbjaaGreat

/-
  WHAT IS PROVED HERE: a part of the proof (made narrower and merged by program; the parts: Wc Wd Vg Vh Vi Vj).
-/
import Derived.Test.YtknmeggfokpbjaaGreatM34
import Derived.Test.YtknmeggfokpbjaaGreatM5
import Derived.Test.YtknmeggfokpbjaaGreatM14
import Derived.Test.YtknmeggfokpbjaaGreatM28
set_option maxRecDepth 100000
set_option maxHeartbeats 8000000
set_option linter.all false
namespace Go.Proofs.YtknmeggfokpbjaaGreat
open Z
open Go.RowKit Go.Proofs.Tryz
open Bool renaming and_eq_true→Zc
open Ending renaming returned→Zd
open Lib renaming hid→Zf
open List renaming getElem?_eq_some_iff→Zi,map_cons→Zm,mem_of_getElem?→Zo
open Nat renaming le_refl→Zt,zero_le→Zw
open Go.Proofs.Tryz renaming prog→Zx
open Value renaming bool→Zy,int→Zz
open Go.RowKit
theorem Me(p:Pr)(w:World)(h:p.In w)(hz:p.sz≤1048576)(i s):Kp Zx w 120 #[.agg #[.slice p.headers.p p.headers.l.length p.headers.cap,.slice p.metas.p p.metas.l.length p.metas.cap,.slice p.states.p p.states.l.length p.states.cap,.slice p.actions.p p.actions.l.length p.actions.cap,.slice p.tables.p p.tables.l.length p.tables.cap,.slice p.control.p p.control.l.length p.control.cap,.slice p.emit.p p.emit.l.length p.emit.cap],.int .i64 i,.string s] (.int .i64 (X5 p i s)):=by
 intro y0;have hr:=h.headers.row.plus y0;have hf:∀x∈p.headers.l,Kp Zx w 184 #[x.fields.v,.string s] (.int .i64 (Xv x.fields.l s)):=fun x hx=>by
  have h1:=YW Hr.sz p.headers.l x hx;open Z renaming aeU→NL in exact Mr
 open Z renaming afT→B8 in exact vC
theorem FQ(p:Pr)(w:World)(h:p.In w)(hz:p.sz≤1048576)(i s):Kp Zx w 177 #[.agg #[.slice p.headers.p p.headers.l.length p.headers.cap,.slice p.metas.p p.metas.l.length p.metas.cap,.slice p.states.p p.states.l.length p.states.cap,.slice p.actions.p p.actions.l.length p.actions.cap,.slice p.tables.p p.tables.l.length p.tables.cap,.slice p.control.p p.control.l.length p.control.cap,.slice p.emit.p p.emit.l.length p.emit.cap],.int .i64 i,.string s] (.int .i64 (WN p i s)):=by
 intro y0;have hr:=h.actions.row.plus y0;have hf:∀x∈p.actions.l,Kp Zx w 184 #[x.params.v,.string s] (.int .i64 (Xv x.params.l s)):=fun x hx=>by
  have h1:=YW Ac.sz p.actions.l x hx;open Z renaming aeV→NL in exact Mr
 open Z renaming afV→B9 in exact vD
theorem LH(p:Pr)(w:World)(h:p.In w)(hz:p.sz≤1048576)(s):Kp Zx w 118 #[.agg #[.slice p.headers.p p.headers.l.length p.headers.cap,.slice p.metas.p p.metas.l.length p.metas.cap,.slice p.states.p p.states.l.length p.states.cap,.slice p.actions.p p.actions.l.length p.actions.cap,.slice p.tables.p p.tables.l.length p.tables.cap,.slice p.control.p p.control.l.length p.control.cap,.slice p.emit.p p.emit.l.length p.emit.cap],.string s] (.int .i64 (Xv p.metas.l s)):=by
 intro y0;have q:=(FT _ w p.metas h.metas (U4 hz).2.1 s).up y0;obtain⟨W,hW⟩:=ZB (plus w y0);rw[hW]at q ⊢;clear hW;simp only[Sl.v]at q;have q1':=Zf q.pure;clear q h hz;go_enter func118,ntmps118;go_upto_region 1 with (fail)
 obtain⟨U,yy,hU,⟨z,hz⟩,ca⟩:=YO W _ 30;rw[hU];have c0:=ca 1 _ rfl;have ZG:=Zf hz;clear hU ca hz;go_wp2_with (first|(go_at_call 184;rw[ZG.out,ZD];with_reducible refine (q1'.out _).mono ?_;rintro r w' ⟨rfl,x,rfl⟩));go_ret;exact⟨rfl,_,rfl⟩
theorem FR(p:Pr)(w:World)(h:p.In w)(hz:p.sz≤1048576)(s):Kp Zx w 176 #[.agg #[.slice p.headers.p p.headers.l.length p.headers.cap,.slice p.metas.p p.metas.l.length p.metas.cap,.slice p.states.p p.states.l.length p.states.cap,.slice p.actions.p p.actions.l.length p.actions.cap,.slice p.tables.p p.tables.l.length p.tables.cap,.slice p.control.p p.control.l.length p.control.cap,.slice p.emit.p p.emit.l.length p.emit.cap],.string s] (.tuple #[.int .i64 (W9 p.states.l s).1,.bool (W9 p.states.l s).2]):=by
 intro y0;have hp:=h.plus y0;obtain⟨W,hW⟩:=ZB (plus w y0);rw[hW]at hp ⊢;clear hW;have hl:p.states.l.length≤1048576:=atT;have hA:=fun z=>hp.states.row.plus z;obtain⟨n,hn⟩:=ZB p.states.l.length;obtain⟨R,hR⟩:=ZB (W9 p.states.l s);rw[hn,hR];rw[hn]at hl;have YV:=Zf hA;have ZO:=Zf hn;have Yt:=Zf hl;have ZR:=Zf hR;clear hA hl hn hR h hz hp;go_enter func176,ntmps176;go_upto_region 1 with (fail)
 generalize hU:W.alloc _=U;have hx:Hid (∃z,U=plus W z):=Zf (hU▸LD W _);have YV:=Zf (show Xa U 5 _ _ _ from atU);have u0:=(congrArg (fun X:World=>X.cell? ⟨W.heap.size,2,none⟩) hU).symm.trans ((YI W _ _ _ 2 rfl).trans rfl);clear hU;have hR:=ZR.out;unfold W9 at hR;by_cases q1:(s.toList==[97,99,99,101,112,116])=true
 ·rw[if_pos q1]at hR
  exact su
 have q1:(s.toList==[97,99,99,101,112,116])=false:=asJ;rw[if_neg (by rw[q1];decide)]at hR;by_cases q2:(s.toList==[114,101,106,101,99,116])=true
 ·rw[if_pos q2]at hR
  exact su
 have q2:(s.toList==[114,101,106,101,99,116])=false:=asL;rw[if_neg (by rw[q2];decide)]at hR;obtain⟨I,hI⟩:=ZB (LI p.states.l s);rw[hI]at hR;have h0:YL (fun x=>x.name.toList==s.toList) (p.states.l.drop 0) 0=I:=hI;have YM:=Zf h0;have Wd:=Zf hR;clear hR ZR hI h0;go_wp2;go_loopw [6] (fun iv wr=>∃k:Nat,k≤n∧iv=.int .i64 (k:Int)∧Hid (YL (fun x=>x.name.toList==s.toList) (p.states.l.drop k) k=I)∧wr=U) (fun iv _=>n-(intOf iv).toNat)
 case atStart=>exact⟨0,Zw _,rfl,YM,rfl⟩
 case round =>
  obtain⟨k,hk,rfl,hs,rfl⟩:=hrel;by_cases ZC:k<n
  ·obtain⟨a,ha⟩:=Yq p.states.l k asG
   obtain⟨pa,Yw,hc⟩:=YV.out k a ha;have ZQ:=(P8 (fun x=>x.name.toList==s.toList) p.states.l k a ha).symm.trans hs.out;have d0:=hc.c0 _ rfl;have a6:=Zf (Y7 k n ZC Yt.out);clear hc ha hs;rw[Yw];by_cases hZ:(a.name.toList==s.toList)=true
   ·have ZP:=Zf (show ((k:Int),true)=R from by
     rw[←Wd.out,←ZQ,if_pos hZ,if_neg asD])
    clear ZQ;exact sy
   ·have ZP:=Zf (show YL (fun x=>x.name.toList==s.toList) (p.states.l.drop (k+1)) (k+1)=I by rw[←ZQ,if_neg hZ])
    exact Kc
  ·obtain rfl:k=n:=by omega
   have ZP:=Zf (show ((0:Int),false)=R from by
    have h1:(-1:Int)=I:=by rw[←hs.out,List.drop_of_length_le (by rw[ZO.out];exact Zt _)];rfl
    rw[←Wd.out,←h1,if_pos asE])
   clear hs ZC hk;exact sy
theorem dx(nm)(A:Sl Fd)(w:World)(K:Fd→Prop)(hA:A.In w 2 Fd.cells K)(hl:A.l.length≤1048576):Kp Zx w 180 #[.agg #[.string nm,A.v]] (.int .i64 (V5 A.l)):=by
 open Z renaming aiQ→Az in exact uA
theorem xB(f:Ex→Bool)(l:List Ex)(k:Nat)(x:Ex)(hx:l[k]?=some x):(l.drop k).all (Ex.there f)=(x.there f&&(l.drop (k+1)).all (Ex.there f)):=U9 _ l k x hx
theorem RK{α:Type}(q:α→Bool)(l:List α):YL q l 0=-1∨¬YL q l 0<0:=by
 rcases H7 q l 0 with h|⟨h,_⟩
 ·exact .inl h
 ·exact .inr asB
theorem C8(p:Pr)(i:Int)(s:ByteArray):X5 p i s=-1∨¬X5 p i s<0:=by
 unfold X5;exact sC
theorem ek(p:Pr)(i:Int)(s:ByteArray):WN p i s=-1∨¬WN p i s<0:=by
 unfold WN;exact sC
theorem JF{F:Int}(h:F=-1∨¬F<0):(F=-1∧(F !=-1)=false)∨(¬F<0∧(F !=-1)=true):=by
 rcases h with rfl|h
 ·exact .inl ⟨rfl,rfl⟩
 ·exact .inr ⟨h,atV⟩
theorem dy(p:Pr)(act)(hz:p.sz≤1048576):∀(e:Ex) (w:World),p.In w→e.In w→e.wt≤1048576→Calls Zx 111 #[.agg #[.slice p.headers.p p.headers.l.length p.headers.cap,.slice p.metas.p p.metas.l.length p.metas.cap,.slice p.states.p p.states.l.length p.states.cap,.slice p.actions.p p.actions.l.length p.actions.cap,.slice p.tables.p p.tables.l.length p.tables.cap,.slice p.control.p p.control.l.length p.control.cap,.slice p.emit.p p.emit.l.length p.emit.cap],.int .i64 act,e.val] w fun r w'=>r=.returned (.bool (e.there (YP p act)))∧∃x,w'=plus w x:=by
 intro e;induction e using Ex.ind with
 | _ e ih =>
 intro w ZF he hb;have hdp:=Ex.there_eq (YP p act) e;obtain⟨R,hR⟩:=ZB (e.there (YP p act));obtain⟨b,Th⟩:=ZB (YP p act e);rw[hR];rw[hR,Th]at hdp;have ZR:=Zf hdp.symm;clear hdp hR;obtain⟨op,⟨lw,lh,ll⟩,hd,nm,eh,el,ep,cap,args⟩:=e;obtain⟨_,_,_,_,_,_,_,_,_,Yj,Xj⟩:=he;have Wk:=Ex.wt_eq (.mk op ⟨lw,lh,ll⟩ hd nm eh el ep cap args);simp only[Ex.args,Ex.head,Ex.name,Ex.p]at ih Yj Xj Wk ZR;rw[Wk]at hb;clear Wk;have ZL:=OO p w ZF hz hd;have ZT:=Me p w ZF hz (YF p.headers.l hd) nm;have Ys:=LH p w ZF hz nm;have YQ:=FQ p w ZF hz act nm;have g1:=RK (fun x:Hr=>x.name.toList==hd.toList) p.headers.l;have g2:=C8 p (YF p.headers.l hd) nm;have g3:=RK (fun x:Fd=>x.name.toList==nm.toList) p.metas.l;have g4:=ek p act nm;show Calls Zx 111 #[.agg #[.slice p.headers.p p.headers.l.length p.headers.cap,.slice p.metas.p p.metas.l.length p.metas.cap,.slice p.states.p p.states.l.length p.states.cap,.slice p.actions.p p.actions.l.length p.actions.cap,.slice p.tables.p p.tables.l.length p.tables.cap,.slice p.control.p p.control.l.length p.control.cap,.slice p.emit.p p.emit.l.length p.emit.cap],.int .i64 act,.agg #[.int .u8 op,.int .i64 lw,.int .u64 lh,.int .u64 ll,.string hd,.string nm,.int .i64 eh,.int .i64 el,.slice ep args.length cap]] w _
 obtain⟨n,hn⟩:=ZB args.length;have hl:n≤1048576:=at9;rw[hn];have ih':=Zf ih;have VR:=Zf ZF;have Wf:=Zf Yj;have Sf:=Zf Xj;have Yi:=Zf hb;have ZO:=Zf hn;have Yt:=Zf hl;have ZL':=Zf ZL;have ZT':=Zf ZT;have Ys':=Zf Ys;have YQ':=Zf YQ;replace Th:=Zf Th;replace g1:=Zf g1;replace g2:=Zf g2;replace g3:=Zf g3;replace g4:=Zf g4;clear hl ih ZF Yj Xj hb hn ZL ZT Ys YQ;go_enter func111,ntmps111;go_upto_region 1 with (fail)
 obtain⟨W,yy,hW,⟨z,ZG⟩,cp,cs⟩:=Xu w _ _ 30 45;open Z renaming akH→GS in exact Dr
theorem eL(p:Pr)(w:World)(ZF:p.In w)(hz:p.sz≤1048576)(act op lw lh ll hd nm eh el ep en ec):Kp Zx w 181 #[.agg #[.slice p.headers.p p.headers.l.length p.headers.cap,.slice p.metas.p p.metas.l.length p.metas.cap,.slice p.states.p p.states.l.length p.states.cap,.slice p.actions.p p.actions.l.length p.actions.cap,.slice p.tables.p p.tables.l.length p.tables.cap,.slice p.control.p p.control.l.length p.control.cap,.slice p.emit.p p.emit.l.length p.emit.cap],.int .i64 act,.agg #[.int .u8 op,.int .i64 lw,.int .u64 lh,.int .u64 ll,.string hd,.string nm,.int .i64 eh,.int .i64 el,.slice ep en ec]] (VD (XS p act op lw hd nm)):=by
 have h1:=OO p w ZF hz hd;have gH:=RK (fun x:Hr=>x.name.toList==hd.toList) p.headers.l;by_cases o1:op=1
 ·subst o1
  have hv:XS p act 1 lw hd nm=(0,⟨lw,false,lw==0⟩):=by unfold XS;rw[if_pos rfl]
  rw[hv];exact eP _ _ _ _ _ _ _ _ _ _ _ _ _ _ _ _ _ _ _ _ _ _ _ _ _ _ _ _ _ _ _ _ _ _ _ (h1) (Zf rfl)
 by_cases o2:op=2
 ·subst o2
  by_cases q:X5 p (YF p.headers.l hd) nm=-1
  ·have hv:XS p act 2 lw hd nm=(7,XH):=by unfold XS;rw[if_neg asE,if_pos rfl,if_pos q]
   rw[hv];by_cases qh:YF p.headers.l hd=-1
   ·rw[qh]at h1
    exact eN _ _ _ _ _ _ _ _ _ _ _ _ _ _ _ _ _ _ _ _ _ _ _ _ _ _ _ _ _ _ _ _ _ (h1)
   ·obtain⟨k,x,hk,hx,-⟩:=Be (fun x:Hr=>x.name.toList==hd.toList) p.headers.l qh
    have hk:YF p.headers.l hd=(k:Int):=hk;have h2:=Me p w ZF hz (YF p.headers.l hd) nm;rw[q]at h2;rw[hk]at h1 h2;open Z renaming akW→A5 in exact tx
  ·have hv:XS p act 2 lw hd nm=(0,XN (TM p (YF p.headers.l hd) (X5 p (YF p.headers.l hd) nm))):=by unfold XS;rw[if_neg asE,if_pos rfl,if_neg q]
   rw[hv];obtain⟨k,x,i,y,g1,hx,g3,hy⟩:=KI q;have h2:=Me p w ZF hz (YF p.headers.l hd) nm;rw[g3]at h2 ⊢;rw[g1]at h1 h2 ⊢;open Z renaming akX→A5 in exact tx
 by_cases o3:op=3
 ·subst o3
  have h2:=LH p w ZF hz nm;by_cases q:Xv p.metas.l nm=-1
  ·have hv:XS p act 3 lw hd nm=(7,XH):=by unfold XS;rw[if_neg asE,if_neg asE,if_pos rfl,if_pos q]
   rw[hv];rw[q]at h2;exact yG _ _ _ _ _ _ _ _ _ _ _ _ _ _ _ _ _ _ _ _ _ _ _ _ _ _ _ _ _ _ _ _ _ _ _ _ _ _ _ (h1) (h2) (yI w p.metas)
  ·have hv:XS p act 3 lw hd nm=(0,XN (TE p.metas.l (Xv p.metas.l nm))):=by unfold XS;rw[if_neg asE,if_neg asE,if_pos rfl,if_neg q]
   rw[hv];obtain⟨i,y,g3,hy⟩:=Nw q;rw[g3]at h2 ⊢;rw[Rz hy];exact yG _ _ _ _ _ _ _ _ _ _ _ _ _ _ _ _ _ _ _ _ _ _ _ _ _ _ _ _ _ _ _ _ _ _ _ _ _ _ _ (h1) (h2) (FP _ w p.metas ZF.metas i y hy)
 by_cases o4:op=4
 ·subst o4
  have h2:=FQ p w ZF hz act nm;by_cases q:WN p act nm=-1
  ·have hv:XS p act 4 lw hd nm=(7,XH):=by unfold XS;rw[if_neg asE,if_neg asE,if_neg asE,if_pos rfl,if_pos q]
   rw[hv];rw[q]at h2;exact eQ _ _ _ _ _ _ _ _ _ _ _ _ _ _ _ _ _ _ _ _ _ _ _ _ _ _ _ _ _ _ _ _ _ _ (h1) (h2)
  ·open Z renaming akT→A2 in exact ts
 by_cases o6:op=6
 ·subst o6
  by_cases q:YF p.headers.l hd=-1
  ·have hv:XS p act 6 lw hd nm=(7,XH):=by unfold XS;rw[if_neg asE,if_neg asE,if_neg asE,if_neg asE,if_pos rfl,if_pos q]
   rw[hv];rw[q]at h1;exact eO _ _ _ _ _ _ _ _ _ _ _ _ _ _ _ _ _ _ _ _ _ _ _ _ _ _ _ _ _ _ _ _ _ (h1)
  ·have hv:XS p act 6 lw hd nm=(0,⟨0,true,false⟩):=by unfold XS;rw[if_neg asE,if_neg asE,if_neg asE,if_neg asE,if_pos rfl,if_neg q]
   rw[hv];exact eT _ _ _ _ _ _ _ _ _ _ _ _ _ _ _ _ _ _ _ _ _ _ _ _ _ _ _ _ _ _ _ _ _ _ (h1) (Zf (gH.resolve_left q))
 have hv:XS p act op lw hd nm=(0,XN 9):=aus;rw[hv];exact eS _ _ _ _ _ _ _ _ _ _ _ _ _ _ _ _ _ _ _ _ _ _ _ _ _ _ _ _ _ _ _ _ _ _ _ (h1) (Zf (by simpa using o1)) (Zf (by simpa using o2)) (Zf ato) (Zf (by simpa using o4)) (Zf atp)
def Xo(W U:World):Prop:=∃z,U=plus W z
theorem Xo.start(W:World)(y:ZH):Xo W (plus W y):=⟨y,rfl⟩
theorem Xo.drew{W U:World}(h:Xo W U):Xo W U.drew:=aut
theorem Xo.alloc{W U:World}(h:Xo W U)(o:Obj):Xo W (U.alloc o):=by obtain⟨z,rfl⟩:=h;exact MS o
theorem Xo.plus{W U:World}(h:Xo W U)(x:ZH):Xo W (Go.Proofs.YtknmeggfokpbjaaGreat.plus U x):=aug
theorem Xo.set{W U:World}(h:Xo W U)(a:Addr)(v:Value)(ha:W.heap.size≤a.block):Xo W (U.setCell a v):=by
 exact tE
theorem Fh{P:Program}{V W:World}{z:ZH}{f:FuncId}{args:Array Value}{v:Value}(h:Kp P V f args v)(hz:W=plus V z):∀U,Xo W U→Calls P f args U fun e w'=>e=.returned v∧∃x,w'=plus U x:=fun U ⟨y,hy⟩=>by
 subst hy;rw[hz,ZD];exact h _
theorem Eb{U:World}{b:Nat}{x y z:Value}(v0 v1 v2:Value)(h0:U.cell? ⟨b,0,none⟩=some x)(h1:U.cell? ⟨b,1,none⟩=some y)(h2:U.cell? ⟨b,2,none⟩=some z) :
  (((U.setCell ⟨b,0,none⟩ v0).setCell ⟨b,1,none⟩ v1).setCell ⟨b,2,none⟩ v2).cell? ⟨b,0,none⟩=some v0∧(((U.setCell ⟨b,0,none⟩ v0).setCell ⟨b,1,none⟩ v1).setCell ⟨b,2,none⟩ v2).cell? ⟨b,1,none⟩=some v1∧(((U.setCell ⟨b,0,none⟩ v0).setCell ⟨b,1,none⟩ v1).setCell ⟨b,2,none⟩ v2).cell? ⟨b,2,none⟩=some v2:=by
 simp[World.cell?_setCell_far,go_sem,h0,h1,h2]
theorem yH(p:Pr)(act op lw lh ll hd nm eh el)(pa:Addr)(N cap:Nat)(XR alw alh all ahd anm aeh ael ap an ac bop blw blh bll bhd bnm beh bel bp bn bc)(R1 tw:Int)(tt tf:Bool)(R2 uw:Int)(ut uf:Bool)(B RE rw:Int)(rt rf:Bool)(w:World)(hN:1≤N)(ha:Yg w pa [.int .u8 XR,.int .i64 alw,.int .u64 alh,.int .u64 all,.string ahd,.string anm,.int .i64 aeh,.int .i64 ael,.slice ap an ac])(kA:Kp Zx w 115 #[.agg #[.slice p.headers.p p.headers.l.length p.headers.cap,.slice p.metas.p p.metas.l.length p.metas.cap,.slice p.states.p p.states.l.length p.states.cap,.slice p.actions.p p.actions.l.length p.actions.cap,.slice p.tables.p p.tables.l.length p.tables.cap,.slice p.control.p p.control.l.length p.control.cap,.slice p.emit.p p.emit.l.length p.emit.cap],.int .i64 act,.agg #[.int .u8 XR,.int .i64 alw,.int .u64 alh,.int .u64 all,.string ahd,.string anm,.int .i64 aeh,.int .i64 ael,.slice ap an ac]] (VD (R1,⟨tw,tt,tf⟩)))(h1:R1≠0→RE=R1∧rw=0∧rt=false∧rf=false)(h2:R1=0→N=1→Kp Zx w 182 #[.agg #[.int .u8 op,.int .i64 lw,.int .u64 lh,.int .u64 ll,.string hd,.string nm,.int .i64 eh,.int .i64 el,.slice (some pa) N cap],.agg #[.int .i64 tw,.bool tt,.bool tf]] (VD (RE,⟨rw,rt,rf⟩)))(h3:R1=0→N≠1→op=14∨op=15→Kp Zx w 116 #[.agg #[.int .i64 tw,.bool tt,.bool tf]] (.int .i64 B)∧(B≠0→RE=B∧rw=0∧rt=false∧rf=false)∧(B=0→RE=0∧rw=tw∧rt=tt∧rf=tf))(h4:R1=0→N≠1→¬(op=14∨op=15)→2≤N∧Yg w (pa.add 9) [.int .u8 bop,.int .i64 blw,.int .u64 blh,.int .u64 bll,.string bhd,.string bnm,.int .i64 beh,.int .i64 bel,.slice bp bn bc]∧Kp Zx w 115 #[.agg #[.slice p.headers.p p.headers.l.length p.headers.cap,.slice p.metas.p p.metas.l.length p.metas.cap,.slice p.states.p p.states.l.length p.states.cap,.slice p.actions.p p.actions.l.length p.actions.cap,.slice p.tables.p p.tables.l.length p.tables.cap,.slice p.control.p p.control.l.length p.control.cap,.slice p.emit.p p.emit.l.length p.emit.cap],.int .i64 act,.agg #[.int .u8 bop,.int .i64 blw,.int .u64 blh,.int .u64 bll,.string bhd,.string bnm,.int .i64 beh,.int .i64 bel,.slice bp bn bc]] (VD (R2,⟨uw,ut,uf⟩))∧(R2≠0→RE=R2∧rw=0∧rt=false∧rf=false)∧(R2=0→Kp Zx w 183 #[.agg #[.int .u8 op,.int .i64 lw,.int .u64 lh,.int .u64 ll,.string hd,.string nm,.int .i64 eh,.int .i64 el,.slice (some pa) N cap],.agg #[.int .i64 tw,.bool tt,.bool tf],.agg #[.int .i64 uw,.bool ut,.bool uf]] (VD (RE,⟨rw,rt,rf⟩)))) :
  Calls Zx 115 #[.agg #[.slice p.headers.p p.headers.l.length p.headers.cap,.slice p.metas.p p.metas.l.length p.metas.cap,.slice p.states.p p.states.l.length p.states.cap,.slice p.actions.p p.actions.l.length p.actions.cap,.slice p.tables.p p.tables.l.length p.tables.cap,.slice p.control.p p.control.l.length p.control.cap,.slice p.emit.p p.emit.l.length p.emit.cap],.int .i64 act,.agg #[.int .u8 op,.int .i64 lw,.int .u64 lh,.int .u64 ll,.string hd,.string nm,.int .i64 eh,.int .i64 el,.slice (some pa) N cap]] w fun r w'=>r=.returned (VD (RE,⟨rw,rt,rf⟩))∧∃x,w'=plus w x:=by
 have ha':=Zf ha;have kA':=Zf kA;have YA:=Zf h1;have Xg:=Zf h2;have VP:=Zf h3;have T8:=Zf h4;clear ha kA h1 h2 h3 h4;go_enter func115,ntmps115;go_upto_region 1 with (fail)
 obtain⟨W,yW,eW,⟨zW,Yn⟩,hsW,cg,ce,cr,fr⟩:=Tb w _ _ _ 30 45 75;open Z renaming anU→RS in exact Qe
theorem eV(p:Pr)(act op lw lh ll hd nm eh el ep cap)(RE rw:Int)(rt rf:Bool)(w)(kL:Kp Zx w 181 #[.agg #[.slice p.headers.p p.headers.l.length p.headers.cap,.slice p.metas.p p.metas.l.length p.metas.cap,.slice p.states.p p.states.l.length p.states.cap,.slice p.actions.p p.actions.l.length p.actions.cap,.slice p.tables.p p.tables.l.length p.tables.cap,.slice p.control.p p.control.l.length p.control.cap,.slice p.emit.p p.emit.l.length p.emit.cap],.int .i64 act,.agg #[.int .u8 op,.int .i64 lw,.int .u64 lh,.int .u64 ll,.string hd,.string nm,.int .i64 eh,.int .i64 el,.slice ep 0 cap]] (VD (RE,⟨rw,rt,rf⟩))) :
  Calls Zx 115 #[.agg #[.slice p.headers.p p.headers.l.length p.headers.cap,.slice p.metas.p p.metas.l.length p.metas.cap,.slice p.states.p p.states.l.length p.states.cap,.slice p.actions.p p.actions.l.length p.actions.cap,.slice p.tables.p p.tables.l.length p.tables.cap,.slice p.control.p p.control.l.length p.control.cap,.slice p.emit.p p.emit.l.length p.emit.cap],.int .i64 act,.agg #[.int .u8 op,.int .i64 lw,.int .u64 lh,.int .u64 ll,.string hd,.string nm,.int .i64 eh,.int .i64 el,.slice ep 0 cap]] w fun r w'=>r=.returned (VD (RE,⟨rw,rt,rf⟩))∧∃x,w'=plus w x:=by
 have kL':=Zf kL;clear kL;go_enter func115,ntmps115;go_upto_region 1 with (fail)
 obtain⟨W,yW,eW,⟨zW,Yn⟩,hsW,cg,ce,cr,fr⟩:=Tb w _ _ _ 30 45 75;open Z renaming anV→RS in exact Qe
theorem Ig{RE rw X:Int}{rt rf:Bool}(h:((RE,⟨rw,rt,rf⟩):Int × Ty)=(X,XH)):RE=X∧rw=0∧rt=false∧rf=false:=by
 exact sN
theorem aaz{RE rw tw X:Int}{rt rf tt tf:Bool}(h:((RE,⟨rw,rt,rf⟩):Int × Ty)=(X,⟨tw,tt,tf⟩)):RE=X∧rw=tw∧rt=tt∧rf=tf:=by
 exact sN
theorem eU(p:Pr)(hz:p.sz≤1048576)(hW:U8 p)(act):∀(e:Ex) (n:Nat) (w:World),e.may n=true→p.In w→e.In w→e.wt≤1048576→Calls Zx 115 #[.agg #[.slice p.headers.p p.headers.l.length p.headers.cap,.slice p.metas.p p.metas.l.length p.metas.cap,.slice p.states.p p.states.l.length p.states.cap,.slice p.actions.p p.actions.l.length p.actions.cap,.slice p.tables.p p.tables.l.length p.tables.cap,.slice p.control.p p.control.l.length p.control.cap,.slice p.emit.p p.emit.l.length p.emit.cap],.int .i64 act,e.val] w fun r w'=>r=.returned (VD (e.ty p act))∧∃x,w'=plus w x:=by
 open Z renaming akr→AQ in exact uV
theorem FO(t:Lt)(k w)(h:t.Ok):Kp Zx w 45 #[.agg #[.int .i64 t.w,.int .u64 t.h,.int .u64 t.l],.int .i64 k] (.int .i64 (Wg t k)):=by
 have kF:Kp Zx w 122 #[.agg #[.int .u64 t.h,.int .u64 t.l],.int .i64 k] (.bool (WI t.n k)):=Kp.all (by rw[Lt.nv_eq h];exact FY t.n k (Lt.n_lt h));clear h;intro y0;have kF:=kF.up y0;have hL:Wg t k=if t.w=0 then (if WI t.n k then 0 else 5) else if t.w=k then 0 else 10:=rfl;obtain⟨V,hV⟩:=ZB (plus w y0);rw[hV]at kF ⊢;clear hV;generalize WI t.n k=F at kF hL;obtain⟨R,hR⟩:=ZB (Wg t k);rw[hR]at hL ⊢;obtain⟨lw,lh,ll⟩:=t;simp only at kF hL ⊢;have kF':=Zf kF;have hL':=Zf hL;clear kF hL hR;go_enter func45,ntmps45;go_upto_region 1 with (fail)
 obtain⟨W,yW,eW,⟨zW,Yn⟩,ca⟩:=YO V _ 42;rw[eW];have c0:=ca 0 (some (.int .i64 lw)) rfl;have c1:=ca 1 (some (.int .u64 lh)) rfl;have c2:=ca 2 (some (.int .u64 ll)) rfl;have q1:=Zf (ZK Yn kF'.out);have hz:=Zf Yn;clear eW Yn ca kF';by_cases h0:lw=0
 ·subst h0
  cases F
  ·have hF:=Zf (show (5:Int)=R by have:=hL'.out;simpa using this.symm)
   exact sP
  ·have hF:=Zf (show (0:Int)=R by have:=hL'.out;simpa using this.symm)
   exact sP
 ·have b0:(lw==0)=false:=by simpa using h0
  have b1:(lw !=0)=true:=as4;by_cases h1:lw=k
  ·subst h1
   have hF:=Zf (show (0:Int)=R by have:=hL'.out;simpa [h0]using this.symm);exact sQ
  ·have b2:(lw !=k)=true:=by simpa using h1
   have hF:=Zf (show (10:Int)=R by have:=hL'.out;simpa [h0,h1]using this.symm);exact sQ
theorem eJ(p:Pr)(act op lw lh ll hd nm eh el ep en ec)(R1 tw:Int)(tt tf:Bool)(n:Nat)(k w)(kO:Kp Zx w 115 #[.agg #[.slice p.headers.p p.headers.l.length p.headers.cap,.slice p.metas.p p.metas.l.length p.metas.cap,.slice p.states.p p.states.l.length p.states.cap,.slice p.actions.p p.actions.l.length p.actions.cap,.slice p.tables.p p.tables.l.length p.tables.cap,.slice p.control.p p.control.l.length p.control.cap,.slice p.emit.p p.emit.l.length p.emit.cap],.int .i64 act,.agg #[.int .u8 op,.int .i64 lw,.int .u64 lh,.int .u64 ll,.string hd,.string nm,.int .i64 eh,.int .i64 el,.slice ep en ec]] (VD (R1,⟨tw,tt,tf⟩)))(kF:R1=0→tf=true→Kp Zx w 121 #[.agg #[.int .u8 op,.int .i64 lw,.int .u64 lh,.int .u64 ll,.string hd,.string nm,.int .i64 eh,.int .i64 el,.slice ep en ec],.int .i64 k] (.bool (WI n k))) :
  Kp Zx w 117 #[.agg #[.slice p.headers.p p.headers.l.length p.headers.cap,.slice p.metas.p p.metas.l.length p.metas.cap,.slice p.states.p p.states.l.length p.states.cap,.slice p.actions.p p.actions.l.length p.actions.cap,.slice p.tables.p p.tables.l.length p.tables.cap,.slice p.control.p p.control.l.length p.control.cap,.slice p.emit.p p.emit.l.length p.emit.cap],.int .i64 act,.agg #[.int .u8 op,.int .i64 lw,.int .u64 lh,.int .u64 ll,.string hd,.string nm,.int .i64 eh,.int .i64 el,.slice ep en ec],.int .i64 k] (.int .i64 (if R1=0 then WA ⟨tw,tt,tf⟩ n k else R1)):=by
 intro y0;have kO:=kO.up y0;have kF:=fun h g=>(kF h g).up y0;obtain⟨V,hV⟩:=ZB (plus w y0);rw[hV]at kO kF ⊢;clear hV;have hG:WA ⟨tw,tt,tf⟩ n k=if tt then 9 else if tf then (if WI n k then 0 else 5) else if tw=k then 0 else 10:=rfl;generalize WI n k=F at kF hG;obtain⟨R,hR⟩:=ZB (if R1=0 then WA ⟨tw,tt,tf⟩ n k else R1);rw[hR];rw[hG]at hR;have ZR:=Zf hR;have kO':=Zf kO;have kF':=Zf kF;clear hG hR kO kF;go_enter func117,ntmps117;go_upto_region 1 with (fail)
 obtain⟨W,yW,eW,⟨zW,Yn⟩,cg,ce⟩:=Xu V _ _ 30 45;open Z renaming anW→RS in exact Qe
theorem eK(p:Pr)(act op lw lh ll hd nm eh el ep en ec)(R1 tw:Int)(tt tf:Bool)(w)(kO:Kp Zx w 115 #[.agg #[.slice p.headers.p p.headers.l.length p.headers.cap,.slice p.metas.p p.metas.l.length p.metas.cap,.slice p.states.p p.states.l.length p.states.cap,.slice p.actions.p p.actions.l.length p.actions.cap,.slice p.tables.p p.tables.l.length p.tables.cap,.slice p.control.p p.control.l.length p.control.cap,.slice p.emit.p p.emit.l.length p.emit.cap],.int .i64 act,.agg #[.int .u8 op,.int .i64 lw,.int .u64 lh,.int .u64 ll,.string hd,.string nm,.int .i64 eh,.int .i64 el,.slice ep en ec]] (VD (R1,⟨tw,tt,tf⟩)))(kB:Kp Zx w 116 #[.agg #[.int .i64 tw,.bool tt,.bool tf]] (.int .i64 (Yz ⟨tw,tt,tf⟩)))(ha:act=-1) :
  Kp Zx w 41 #[.agg #[.slice p.headers.p p.headers.l.length p.headers.cap,.slice p.metas.p p.metas.l.length p.metas.cap,.slice p.states.p p.states.l.length p.states.cap,.slice p.actions.p p.actions.l.length p.actions.cap,.slice p.tables.p p.tables.l.length p.tables.cap,.slice p.control.p p.control.l.length p.control.cap,.slice p.emit.p p.emit.l.length p.emit.cap],.agg #[.int .u8 op,.int .i64 lw,.int .u64 lh,.int .u64 ll,.string hd,.string nm,.int .i64 eh,.int .i64 el,.slice ep en ec]] (.int .i64 (if R1=0 then Yz ⟨tw,tt,tf⟩ else R1)):=by
 subst ha;intro y0;have kO:=kO.up y0;have kB:=kB.up y0;obtain⟨V,hV⟩:=ZB (plus w y0);rw[hV]at kO kB ⊢;clear hV;generalize Yz ⟨tw,tt,tf⟩=B at kB ⊢;obtain⟨R,hR⟩:=ZB (if R1=0 then B else R1);rw[hR];have ZR:=Zf hR;have kO':=Zf kO;have kB':=Zf kB;clear hR kO kB;go_enter func41,ntmps41;go_upto_region 1 with (fail)
 obtain⟨W,yW,eW,⟨zW,Yn⟩,cg,ce⟩:=Xu V _ _ 30 45;open Z renaming anX→RS in exact Qe
end Go.Proofs.YtknmeggfokpbjaaGreat

/-
  WHAT IS PROVED HERE: a part of the proof (made narrower and merged by program; the parts: Vd Ve Vf Wb).
-/
import Derived.Test.YtknmeggfokpbjaaGreatM17
import Derived.Test.YtknmeggfokpbjaaGreatM5
import Derived.Test.YtknmeggfokpbjaaGreatM19
set_option maxRecDepth 100000
set_option maxHeartbeats 8000000
set_option linter.all false
namespace Go.Proofs.YtknmeggfokpbjaaGreat
open Z
open Go.RowKit Go.Proofs.Tryz
open Ending renaming returned→Zd
open Lib renaming hid→Zf
open List renaming drop_succ_cons→Zg,drop_zero→Zh,getElem?_eq_some_iff→Zi,take_succ_cons→Zs
open Nat renaming le_refl→Zt,zero_le→Zw
open Go.Proofs.Tryz renaming prog→Zx
open Value renaming int→Zz
open Go.RowKit
def Nf(w:World)(l:List Ex)(i n:Nat):Prop:=∃a,l[i]?=some a∧∀k:Int,Kp Zx w 121 #[.agg #[.int .u8 a.op,.int .i64 a.lit.w,.int .u64 a.lit.h,.int .u64 a.lit.l,.string a.head,.string a.name,.int .i64 a.hi,.int .i64 a.lo,.slice a.p a.args.length a.cap],.int .i64 k] (.bool (WI n k))
theorem di(op lw lh ll hd nm eh el)(ep:Option Addr)(en ec:Nat)(l:List Ex)(hen:l.length=en)(n m:Nat)(s t:Ty)(w:World)(Yj:Xa w 9 Ex.cells ep l)(Ym:s.fr=true→Nf w l 0 n)(ZL:t.fr=true→Nf w l 1 m):Kp Zx w 207 #[.agg #[.int .u8 op,.int .i64 lw,.int .u64 lh,.int .u64 ll,.string hd,.string nm,.int .i64 eh,.int .i64 el,.slice ep en ec],.agg #[.int .i64 s.w,.bool s.tr,.bool s.fr],.agg #[.int .i64 t.w,.bool t.tr,.bool t.fr]] (.tuple #[.int .i64 (WC n m s t).2,.int .i64 (WC n m s t).1]):=by
 intro y0;have Yj:=Yj.plus y0;have Ym':=Zf Ym;have ZL':=Zf ZL;clear Ym ZL;obtain⟨W,hW⟩:=ZB (plus w y0);rw[hW]at Yj ⊢;have Uq:=Zf hW;clear hW;have Wf:=Zf Yj;have hen':=Zf hen;obtain⟨⟨r1,r2⟩,hR⟩:∃R,WC n m s t=R:=⟨_,rfl⟩;rw[hR];have hv:=hR;unfold WC at hv;clear hR Yj hen;obtain⟨sw,st,sf⟩:=s;obtain⟨tw,tt,tf⟩:=t;simp only at hv Ym' ZL' ⊢;go_enter func207,ntmps207;go_upto_region 1 with (fail)
 obtain⟨X,hX,hB,-,ca,cb,cc,-,-,-⟩:=Su W _ _ _ 45 75 75;rw[←hX];obtain⟨zX,ZE⟩:=Yy hB;have c8:=ca 8 _ rfl;have s0:=cb 0 _ rfl;have s1:=cb 1 _ rfl;have s2:=cb 2 _ rfl;have t0:=cc 0 _ rfl;have t1:=cc 1 _ rfl;have t2:=cc 2 _ rfl;have ZY:=Zf ZE;clear hX hB ca cb cc ZE;rw[←Yk X];cases st with
 | true =>
  rw[if_pos asD]at hv;obtain⟨rfl,rfl⟩:r1=_∧r2=_:=as5;go_wp2;go_ret2;exact⟨rfl,asK⟩
 | false =>
  cases tt with
  | true =>
   rw[if_pos asD]at hv;obtain⟨rfl,rfl⟩:r1=_∧r2=_:=as5;go_wp2;go_ret2;exact⟨rfl,asK⟩
  | false =>
   rw[if_neg asE]at hv;cases sf with
   | true =>
    cases tf with
    | true =>
     rw[if_pos asD]at hv;obtain⟨rfl,rfl⟩:r1=_∧r2=_:=as5;go_wp2;go_ret2;exact⟨rfl,asK⟩
    | false =>
     obtain⟨a,ha,hk⟩:=Ym'.out rfl;have XQ:0<en:=by rw[←hen'.out];exact (Zi.1 ha).1
     obtain⟨pa,Yw,hc⟩:=Wf.out 0 a ha;have hc:=YR ZY.out hc;simp only[Nat.zero_mul,Addr.add_zero']at hc;have q1:=Zf (ZK (show X=plus w _ from by rw[ZY.out,←Uq.out,ZD]) (hk tw));obtain⟨Z,hZ⟩:=ZB (WI n tw);rw[hZ]at q1 hv;obtain⟨XR,⟨alw,alh,all⟩,ahd,anm,aeh,ael,aep,acap,aargs⟩:=a;have d0:=fun y=>(hc.plus y).c0 _ rfl;have d1:=fun y=>(hc.plus y).cs 0 _ rfl;have d2:=fun y=>(hc.plus y).cs 1 _ rfl;have d3:=fun y=>(hc.plus y).cs 2 _ rfl;have d4:=fun y=>(hc.plus y).cs 3 _ rfl;have d5:=fun y=>(hc.plus y).cs 4 _ rfl;have d6:=fun y=>(hc.plus y).cs 5 _ rfl;have d7:=fun y=>(hc.plus y).cs 6 _ rfl;have d8:=fun y=>(hc.plus y).cs 7 _ rfl;simp only[Ex.op,Ex.lit,Ex.head,Ex.name,Ex.hi,Ex.lo,Ex.p,Ex.cap,Ex.args]at q1 d0 d1 d2 d3 d4 d5 d6 d7 d8;clear ha hk hc hZ Ym' ZL' Wf;subst Yw;cases Z with
     | true =>
      rw[if_neg asE,if_pos rfl,if_pos rfl]at hv;obtain⟨rfl,rfl⟩:r1=_∧r2=_:=as5;go_upto_region 6 with (fail)
      refine Wz asC asC ?_;repeat (go_big_quiet_step (first|(with_reducible exact q1.out _)))
      refine wpQuiet_nil ?_;rintro _ ⟨y16,rfl⟩;go_wp2;go_ret2;exact⟨rfl,asK⟩
     | false =>
      rw[if_neg asE,if_pos rfl,if_neg asE]at hv;obtain⟨rfl,rfl⟩:r1=_∧r2=_:=as5;go_upto_region 6 with (fail)
      refine Wz asC asC ?_;repeat (go_big_quiet_step (first|(with_reducible exact q1.out _)))
      refine wpQuiet_nil ?_;rintro _ ⟨y16,rfl⟩;go_wp2;go_ret2;exact⟨rfl,asK⟩
   | false =>
    cases tf with
    | true =>
     obtain⟨a,ha,hk⟩:=ZL'.out rfl;have XQ:1<en:=by rw[←hen'.out];exact (Zi.1 ha).1
     obtain⟨pa,Yw,hc⟩:=Wf.out 1 a ha;have hc:=YR ZY.out hc;simp only[Nat.one_mul]at hc;rw[show pa.add 9=⟨pa.block,pa.off+9,none⟩ by simp[Addr.add]]at hc;have q1:=Zf (ZK (show X=plus w _ from by rw[ZY.out,←Uq.out,ZD]) (hk sw));obtain⟨Z,hZ⟩:=ZB (WI m sw);rw[hZ]at q1 hv;obtain⟨XR,⟨alw,alh,all⟩,ahd,anm,aeh,ael,aep,acap,aargs⟩:=a;have d0:=fun y=>(hc.plus y).c0 _ rfl;have d1:=fun y=>(hc.plus y).cs 0 _ rfl;have d2:=fun y=>(hc.plus y).cs 1 _ rfl;have d3:=fun y=>(hc.plus y).cs 2 _ rfl;have d4:=fun y=>(hc.plus y).cs 3 _ rfl;have d5:=fun y=>(hc.plus y).cs 4 _ rfl;have d6:=fun y=>(hc.plus y).cs 5 _ rfl;have d7:=fun y=>(hc.plus y).cs 6 _ rfl;have d8:=fun y=>(hc.plus y).cs 7 _ rfl;simp only[Ex.op,Ex.lit,Ex.head,Ex.name,Ex.hi,Ex.lo,Ex.p,Ex.cap,Ex.args]at q1 d0 d1 d2 d3 d4 d5 d6 d7 d8;clear ha hk hc hZ Ym' ZL' Wf;subst Yw;cases Z with
     | true =>
      rw[if_neg asE,if_neg asE,if_pos rfl,if_pos rfl]at hv;obtain⟨rfl,rfl⟩:r1=_∧r2=_:=as5;go_upto_region 10 with (fail)
      refine Wz asC asC ?_;repeat (go_big_quiet_step (first|(with_reducible exact q1.out _)))
      refine wpQuiet_nil ?_;rintro _ ⟨y20,rfl⟩;go_wp2;go_ret2;exact⟨rfl,asK⟩
     | false =>
      rw[if_neg asE,if_neg asE,if_pos rfl,if_neg asE]at hv;obtain⟨rfl,rfl⟩:r1=_∧r2=_:=as5;go_upto_region 10 with (fail)
      refine Wz asC asC ?_;repeat (go_big_quiet_step (first|(with_reducible exact q1.out _)))
      refine wpQuiet_nil ?_;rintro _ ⟨y20,rfl⟩;go_wp2;go_ret2;exact⟨rfl,asK⟩
    | false =>
     rw[if_neg asE,if_neg asE,if_neg asE]at hv;by_cases e:sw=tw
     ·rw[if_pos e]at hv
      obtain⟨rfl,rfl⟩:r1=_∧r2=_:=as5;subst e;go_wp2;go_ret2;exact⟨rfl,asK⟩
     ·rw[if_neg e]at hv
      obtain⟨rfl,rfl⟩:r1=_∧r2=_:=as5;have e2:(sw==tw)=false:=ate;clear e;go_wp2;go_ret2;exact⟨rfl,asK⟩
theorem dh(op lw lh ll hd nm eh el)(ep:Option Addr)(en ec:Nat)(l:List Ex)(hen:l.length=en)(n m:Nat)(s t:Ty)(w:World)(Yj:Xa w 9 Ex.cells ep l)(Ym:s.fr=true→Nf w l 0 n)(ZL:t.fr=true→Nf w l 1 m)(hw:Yz s=0→Yz t=0→wrap64 (s.w+t.w)=s.w+t.w):Kp Zx w 183 #[.agg #[.int .u8 op,.int .i64 lw,.int .u64 lh,.int .u64 ll,.string hd,.string nm,.int .i64 eh,.int .i64 el,.slice ep en ec],.agg #[.int .i64 s.w,.bool s.tr,.bool s.fr],.agg #[.int .i64 t.w,.bool t.tr,.bool t.fr]] (VD (SP op n m s t)):=by
 have kb1:=LG s w;have kb2:=LG t w;have ks:=di op lw lh ll hd nm eh el ep en ec l hen n m s t w Yj Ym ZL;intro y0;have kb1:=kb1.up y0;have kb2:=kb2.up y0;have ks:=ks.up y0;obtain⟨W,hW⟩:=ZB (plus w y0);rw[hW]at kb1 kb2 ks ⊢;clear hW Yj Ym ZL hen;have kb1':=Zf kb1;have kb2':=Zf kb2;have ks':=Zf ks;have Xr:=Zf hw;clear kb1 kb2 ks hw;obtain⟨R,hR⟩:=ZB (SP op n m s t);rw[hR];have hv:=hR;unfold SP at hv;clear hR;obtain⟨⟨S1,S2⟩,hS⟩:∃r,WC n m s t=r:=⟨_,rfl⟩;obtain⟨B1,hB1⟩:=ZB (Yz s);obtain⟨B2,VI⟩:=ZB (Yz t);rw[hS]at ks' hv;rw[hB1]at kb1' hv Xr;rw[VI]at kb2' hv Xr;simp only at ks' hv;clear hS hB1 VI;obtain⟨sw,st,sf⟩:=s;obtain⟨tw,tt,tf⟩:=t;simp only at hv kb1' kb2' ks' Xr ⊢;go_enter func183,ntmps183;go_upto_region 1 with (fail)
 obtain⟨Uc,hUc,bUc,nUc,kc,zc⟩:=WS W _ 45;rw[←hUc];obtain⟨ec,gc⟩:=Yy bUc;have c0:=kc 0 _ rfl;have c1:=kc 1 _ rfl;have c2:=kc 2 _ rfl;have c3:=kc 3 _ rfl;have c4:=kc 4 _ rfl;have c5:=kc 5 _ rfl;have c6:=kc 6 _ rfl;have c7:=kc 7 _ rfl;have c8:=kc 8 _ rfl;have wc:=Zf (show ∃z,Uc=plus W z from⟨_,gc⟩);have wc':=wc;clear hUc bUc kc zc gc;obtain⟨Us,hUs,bUs,nUs,ks,zs⟩:=WS Uc _ 75;rw[←hUs];obtain⟨es,gs⟩:=Yy bUs;rw[nUc]at ks zs;have c0:=ZM gs c0;have c1:=ZM gs c1;have c2:=ZM gs c2;have c3:=ZM gs c3;have c4:=ZM gs c4;have c5:=ZM gs c5;have c6:=ZM gs c6;have c7:=ZM gs c7;have c8:=ZM gs c8;have s0:=ks 0 _ rfl;have s1:=ks 1 _ rfl;have s2:=ks 2 _ rfl;have ws:=Zf (show ∃z,Us=plus W z from by obtain⟨z,h⟩:=wc'.out;rw[gs,h,ZD];exact⟨_,rfl⟩);have ws':=ws;clear hUs bUs ks zs gs;obtain⟨Ut,hUt,bUt,nUt,kt,zt⟩:=WS Us _ 75;rw[←hUt];obtain⟨et,gt⟩:=Yy bUt;rw[nUs,nUc]at kt zt;have c0:=ZM gt c0;have c1:=ZM gt c1;have c2:=ZM gt c2;have c3:=ZM gt c3;have c4:=ZM gt c4;have c5:=ZM gt c5;have c6:=ZM gt c6;have c7:=ZM gt c7;have c8:=ZM gt c8;have s0:=ZM gt s0;have s1:=ZM gt s1;have s2:=ZM gt s2;have t0:=kt 0 _ rfl;have t1:=kt 1 _ rfl;have t2:=kt 2 _ rfl;have wt:=Zf (show ∃z,Ut=plus W z from by obtain⟨z,h⟩:=ws'.out;rw[gt,h,ZD];exact⟨_,rfl⟩);have wt':=wt;clear hUt bUt kt zt gt;obtain⟨Ur,hUr,bUr,nUr,kr,zr⟩:=WS Ut _ 75;rw[←hUr];obtain⟨er,gr⟩:=Yy bUr;rw[nUt,nUs,nUc]at kr zr;have c0:=ZM gr c0;have c1:=ZM gr c1;have c2:=ZM gr c2;have c3:=ZM gr c3;have c4:=ZM gr c4;have c5:=ZM gr c5;have c6:=ZM gr c6;have c7:=ZM gr c7;have c8:=ZM gr c8;have s0:=ZM gr s0;have s1:=ZM gr s1;have s2:=ZM gr s2;have t0:=ZM gr t0;have t1:=ZM gr t1;have t2:=ZM gr t2;have r0:=kr 0 _ rfl;have r1:=kr 1 _ rfl;have r2:=kr 2 _ rfl;have fr:=zr;have wr:=Zf (show ∃z,Ur=plus W z from by obtain⟨z,h⟩:=wt'.out;rw[gr,h,ZD];exact⟨_,rfl⟩);have wr':=wr;clear hUr bUr kr zr gr;go_upto_region 2 with (fail)
 obtain⟨Un,hUn,bUn,nUn,kn,zn⟩:=WS Ur _ 75;rw[←hUn];obtain⟨en,gn⟩:=Yy bUn;rw[nUr,nUt,nUs,nUc]at kn zn;have c0:=ZM gn c0;have c1:=ZM gn c1;have c2:=ZM gn c2;have c3:=ZM gn c3;have c4:=ZM gn c4;have c5:=ZM gn c5;have c6:=ZM gn c6;have c7:=ZM gn c7;have c8:=ZM gn c8;have s0:=ZM gn s0;have s1:=ZM gn s1;have s2:=ZM gn s2;have t0:=ZM gn t0;have t1:=ZM gn t1;have t2:=ZM gn t2;have r0:=ZM gn r0;have r1:=ZM gn r1;have r2:=ZM gn r2;have fr:∀y o,(plus Un y).frozen? _=false:=fun y o=>by rw[gn,ZD];exact fr _ o
 have n0:=kn 0 _ rfl;have n1:=kn 1 _ rfl;have n2:=kn 2 _ rfl;have wn:=Zf (show ∃z,Un=plus W z from by obtain⟨z,h⟩:=wr'.out;rw[gn,h,ZD];exact⟨_,rfl⟩);have wn':=wn;clear hUn bUn kn zn gn;clear nUc nUs nUt nUr nUn;obtain⟨zE,hzE0⟩:=wn.out;have SH:=Zf hzE0;have q1:=Zf (ZK hzE0 kb1'.out);have q2:=Zf (ZK hzE0 kb2'.out);have qs:=Zf (ZK hzE0 ks'.out);clear hzE0 kb1' kb2' ks';rw[←Yk Un];by_cases o25:op=25
 ·subst o25
  exact sd
 by_cases o26:op=26
 ·subst o26
  exact sd
 rw[if_neg (fun h=>h.elim o25 o26)]at hv;have m25:(op==25)=false:=by simpa using o25
 have m26:(op==26)=false:=by simpa using o26
 by_cases o11:op=11
 ·subst o11
  rw[if_pos rfl]at hv;clear o25 o26 m25 m26 qs;by_cases b1:B1=0
  ·rw[if_neg (by simpa using b1)]at hv
   subst b1;by_cases b2:B2=0
   ·rw[if_neg (by simpa using b2)]at hv
    subst b2;have e7:=Xr.out rfl rfl;by_cases h5:128<sw+tw
    ·rw[if_pos h5]at hv
     subst hv;have e8:128<wrap64 (sw+tw):=by rw[e7];exact h5
     clear Xr h5 e7;open Z renaming ahu→Ah in exact vR
    ·rw[if_neg h5]at hv
     subst hv;have e8:wrap64 (sw+tw)≤128:=by rw[e7];omega
     have e9:=Zf e7;clear Xr h5 e7;go_wp2_with (first|(go_at_call 116;with_reducible refine (q1.out _).mono ?_;rintro r w' ⟨rfl,x,rfl⟩)|(go_at_call 116;with_reducible refine (q2.out _).mono ?_;rintro r w' ⟨rfl,x,rfl⟩));simp only[e9.out];obtain⟨V,hV,g0,g1,g2,hz⟩:=VC SH.out (W.heap.size+1+1+1) asB _ _ _ _ (.int .i64 (sw+tw)) (.bool false) (.bool false) r0 r1 r2;rw[hV];clear hV;exact bodyPost_ret (v:=.tuple #[.agg #[.int .i64 (sw+tw),.bool false,.bool false],.int .i64 (0)]) asY rfl ⟨rfl,hz⟩
   ·rw[if_pos b2]at hv
    subst hv;have h6:(B2==0)=false:=by simpa using b2
    clear Xr b2;open Z renaming ahv→Ah in exact vR
  ·rw[if_pos b1]at hv
   subst hv;have h6:(B1==0)=false:=by simpa using b1
   clear Xr b1 q2;go_wp2_with (first|(go_at_call 116;with_reducible refine (q1.out _).mono ?_;rintro r w' ⟨rfl,x,rfl⟩));open Z renaming ala→GX in exact Dv
 rw[if_neg o11]at hv;have m11:(op==11)=false:=by simpa using o11
 clear o25 o26 o11 q1 q2 Xr;by_cases s0:S1=0
 ·rw[if_neg (by simpa using s0)]at hv
  subst s0;by_cases h1:19≤op
  ·by_cases h2:op≤24
   ·rw[if_pos ⟨h1,h2⟩]at hv
    subst hv;go_wp2_with (first|(go_at_call 207;with_reducible refine (qs.out _).mono ?_;rintro r w' ⟨rfl,x,rfl⟩));obtain⟨V,hV,g0,g1,g2,hz⟩:=VC SH.out (W.heap.size+1+1+1) asB _ _ _ _ (.int .i64 (0)) (.bool true) (.bool false) r0 r1 r2;rw[hV];clear hV;exact bodyPost_ret (v:=.tuple #[.agg #[.int .i64 (0),.bool true,.bool false],.int .i64 (0)]) asY rfl ⟨rfl,hz⟩
   ·rw[if_neg (fun h=>h2 h.2)]at hv
    subst hv;have h3:24<op:=asB;clear h2;exact se
  ·rw[if_neg (fun h=>h1 h.1)]at hv
   subst hv;have h3:op<19:=asB;clear h1;exact se
 ·rw[if_pos s0]at hv
  subst hv;have h6:(S1==0)=false:=by simpa using s0
  clear s0;go_wp2_with (first|(go_at_call 207;with_reducible refine (qs.out _).mono ?_;rintro r w' ⟨rfl,x,rfl⟩));open Z renaming alb→GX in exact Dv
theorem eP(p0 n0 c0 p1 n1 c1 p2 n2 c2 p3 n3 c3 p4 n4 c4 p5 n5 c5 p6 n6 c6 act)(lw lh ll:Int)(hd nm eh el ep en ec I)(b:Bool)(w)(h1:Kp Zx w 119 #[.agg #[.slice p0 n0 c0,.slice p1 n1 c1,.slice p2 n2 c2,.slice p3 n3 c3,.slice p4 n4 c4,.slice p5 n5 c5,.slice p6 n6 c6],.string hd] (.int .i64 I))(hb:Hid ((lw==0)=b)) :
  Kp Zx w 181 #[.agg #[.slice p0 n0 c0,.slice p1 n1 c1,.slice p2 n2 c2,.slice p3 n3 c3,.slice p4 n4 c4,.slice p5 n5 c5,.slice p6 n6 c6],.int .i64 act,.agg #[.int .u8 1,.int .i64 lw,.int .u64 lh,.int .u64 ll,.string hd,.string nm,.int .i64 eh,.int .i64 el,.slice ep en ec]] (.tuple #[.agg #[.int .i64 lw,.bool false,.bool b],.int .i64 0]):=by
 open Z renaming ali→Jl in exact IZ
theorem eN(p0 n0 c0 p1 n1 c1 p2 n2 c2 p3 n3 c3 p4 n4 c4 p5 n5 c5 p6 n6 c6 act lw lh ll hd nm eh el ep en ec w)(h1:Kp Zx w 119 #[.agg #[.slice p0 n0 c0,.slice p1 n1 c1,.slice p2 n2 c2,.slice p3 n3 c3,.slice p4 n4 c4,.slice p5 n5 c5,.slice p6 n6 c6],.string hd] (.int .i64 (-1)))  :
  Kp Zx w 181 #[.agg #[.slice p0 n0 c0,.slice p1 n1 c1,.slice p2 n2 c2,.slice p3 n3 c3,.slice p4 n4 c4,.slice p5 n5 c5,.slice p6 n6 c6],.int .i64 act,.agg #[.int .u8 2,.int .i64 lw,.int .u64 lh,.int .u64 ll,.string hd,.string nm,.int .i64 eh,.int .i64 el,.slice ep en ec]] (.tuple #[.agg #[.int .i64 0,.bool false,.bool false],.int .i64 7]):=by
 exact sj
theorem eM(p1 n1 c1 p2 n2 c2 p3 n3 c3 p4 n4 c4 p5 n5 c5 p6 n6 c6)(pa:Addr)(n nc:Nat)(act lw lh ll hd nm eh el ep en ec xn fp fn fc I tw tt tf E)(w:World)(k:Nat)(hk:k<n)(hc:Yg w (pa.add (k*2)) [.string xn,.slice fp fn fc])(h1:Kp Zx w 119 #[.agg #[.slice (some pa) n nc,.slice p1 n1 c1,.slice p2 n2 c2,.slice p3 n3 c3,.slice p4 n4 c4,.slice p5 n5 c5,.slice p6 n6 c6],.string hd] (.int .i64 (k:Int)))(h2:Kp Zx w 120 #[.agg #[.slice (some pa) n nc,.slice p1 n1 c1,.slice p2 n2 c2,.slice p3 n3 c3,.slice p4 n4 c4,.slice p5 n5 c5,.slice p6 n6 c6],.int .i64 (k:Int),.string nm] (.int .i64 I))(h3:Kp Zx w 206 #[.slice fp fn fc,.int .i64 I] (.tuple #[.agg #[.int .i64 tw,.bool tt,.bool tf],.int .i64 E]))  :
  Kp Zx w 181 #[.agg #[.slice (some pa) n nc,.slice p1 n1 c1,.slice p2 n2 c2,.slice p3 n3 c3,.slice p4 n4 c4,.slice p5 n5 c5,.slice p6 n6 c6],.int .i64 act,.agg #[.int .u8 2,.int .i64 lw,.int .u64 lh,.int .u64 ll,.string hd,.string nm,.int .i64 eh,.int .i64 el,.slice ep en ec]] (.tuple #[.agg #[.int .i64 tw,.bool tt,.bool tf],.int .i64 E]):=by
 open Z renaming ajO→AK in exact uN
theorem yG(p0 n0 c0 p1 n1 c1 p2 n2 c2 p3 n3 c3 p4 n4 c4 p5 n5 c5 p6 n6 c6 act lw lh ll hd nm eh el ep en ec I J tw tt tf E w)(h1:Kp Zx w 119 #[.agg #[.slice p0 n0 c0,.slice p1 n1 c1,.slice p2 n2 c2,.slice p3 n3 c3,.slice p4 n4 c4,.slice p5 n5 c5,.slice p6 n6 c6],.string hd] (.int .i64 I))(h2:Kp Zx w 118 #[.agg #[.slice p0 n0 c0,.slice p1 n1 c1,.slice p2 n2 c2,.slice p3 n3 c3,.slice p4 n4 c4,.slice p5 n5 c5,.slice p6 n6 c6],.string nm] (.int .i64 J))(h3:Kp Zx w 206 #[.slice p1 n1 c1,.int .i64 J] (.tuple #[.agg #[.int .i64 tw,.bool tt,.bool tf],.int .i64 E]))  :
  Kp Zx w 181 #[.agg #[.slice p0 n0 c0,.slice p1 n1 c1,.slice p2 n2 c2,.slice p3 n3 c3,.slice p4 n4 c4,.slice p5 n5 c5,.slice p6 n6 c6],.int .i64 act,.agg #[.int .u8 3,.int .i64 lw,.int .u64 lh,.int .u64 ll,.string hd,.string nm,.int .i64 eh,.int .i64 el,.slice ep en ec]] (.tuple #[.agg #[.int .i64 tw,.bool tt,.bool tf],.int .i64 E]):=by
 intro y0;have h1:=h1.up y0;have h2:=h2.up y0;have h3:=h3.up y0;obtain⟨W,hW⟩:=ZB (plus w y0);rw[hW]at h1 h2 h3 ⊢;clear hW;have YA:=Zf h1;have Xg:=Zf h2;have VP:=Zf h3;clear h1 h2 h3;open Z renaming aqH→Pq in exact PT
theorem eQ(p0 n0 c0 p1 n1 c1 p2 n2 c2 p3 n3 c3 p4 n4 c4 p5 n5 c5 p6 n6 c6 act lw lh ll hd nm eh el ep en ec I w)(h1:Kp Zx w 119 #[.agg #[.slice p0 n0 c0,.slice p1 n1 c1,.slice p2 n2 c2,.slice p3 n3 c3,.slice p4 n4 c4,.slice p5 n5 c5,.slice p6 n6 c6],.string hd] (.int .i64 I))(h2:Kp Zx w 177 #[.agg #[.slice p0 n0 c0,.slice p1 n1 c1,.slice p2 n2 c2,.slice p3 n3 c3,.slice p4 n4 c4,.slice p5 n5 c5,.slice p6 n6 c6],.int .i64 act,.string nm] (.int .i64 (-1)))  :
  Kp Zx w 181 #[.agg #[.slice p0 n0 c0,.slice p1 n1 c1,.slice p2 n2 c2,.slice p3 n3 c3,.slice p4 n4 c4,.slice p5 n5 c5,.slice p6 n6 c6],.int .i64 act,.agg #[.int .u8 4,.int .i64 lw,.int .u64 lh,.int .u64 ll,.string hd,.string nm,.int .i64 eh,.int .i64 el,.slice ep en ec]] (.tuple #[.agg #[.int .i64 0,.bool false,.bool false],.int .i64 7]):=by
 intro y0;have h1:=h1.up y0;have h2:=h2.up y0;obtain⟨W,hW⟩:=ZB (plus w y0);rw[hW]at h1 h2 ⊢;clear hW;have YA:=Zf h1;have Xg:=Zf h2;clear h1 h2;open Z renaming aqI→Pq in exact PT
theorem eR(p0 n0 c0 p1 n1 c1 p2 n2 c2 p4 n4 c4 p5 n5 c5 p6 n6 c6)(pa:Addr)(n nc:Nat)(lw lh ll hd nm eh el ep en ec xn fp fn fc bp bn bc I)(i:Nat)(tw tt tf E)(w:World)(k:Nat)(hk:k<n)(hc:Yg w (pa.add (k*3)) [.string xn,.slice fp fn fc,.slice bp bn bc])(h1:Kp Zx w 119 #[.agg #[.slice p0 n0 c0,.slice p1 n1 c1,.slice p2 n2 c2,.slice (some pa) n nc,.slice p4 n4 c4,.slice p5 n5 c5,.slice p6 n6 c6],.string hd] (.int .i64 I))(h2:Kp Zx w 177 #[.agg #[.slice p0 n0 c0,.slice p1 n1 c1,.slice p2 n2 c2,.slice (some pa) n nc,.slice p4 n4 c4,.slice p5 n5 c5,.slice p6 n6 c6],.int .i64 (k:Int),.string nm] (.int .i64 (i:Int)))(h3:Kp Zx w 206 #[.slice fp fn fc,.int .i64 (i:Int)] (.tuple #[.agg #[.int .i64 tw,.bool tt,.bool tf],.int .i64 E]))  :
  Kp Zx w 181 #[.agg #[.slice p0 n0 c0,.slice p1 n1 c1,.slice p2 n2 c2,.slice (some pa) n nc,.slice p4 n4 c4,.slice p5 n5 c5,.slice p6 n6 c6],.int .i64 (k:Int),.agg #[.int .u8 4,.int .i64 lw,.int .u64 lh,.int .u64 ll,.string hd,.string nm,.int .i64 eh,.int .i64 el,.slice ep en ec]] (.tuple #[.agg #[.int .i64 tw,.bool tt,.bool tf],.int .i64 E]):=by
 open Z renaming ajQ→AK in exact uN
theorem eO(p0 n0 c0 p1 n1 c1 p2 n2 c2 p3 n3 c3 p4 n4 c4 p5 n5 c5 p6 n6 c6 act lw lh ll hd nm eh el ep en ec w)(h1:Kp Zx w 119 #[.agg #[.slice p0 n0 c0,.slice p1 n1 c1,.slice p2 n2 c2,.slice p3 n3 c3,.slice p4 n4 c4,.slice p5 n5 c5,.slice p6 n6 c6],.string hd] (.int .i64 (-1)))  :
  Kp Zx w 181 #[.agg #[.slice p0 n0 c0,.slice p1 n1 c1,.slice p2 n2 c2,.slice p3 n3 c3,.slice p4 n4 c4,.slice p5 n5 c5,.slice p6 n6 c6],.int .i64 act,.agg #[.int .u8 6,.int .i64 lw,.int .u64 lh,.int .u64 ll,.string hd,.string nm,.int .i64 eh,.int .i64 el,.slice ep en ec]] (.tuple #[.agg #[.int .i64 0,.bool false,.bool false],.int .i64 7]):=by
 exact sj
theorem eT(p0 n0 c0 p1 n1 c1 p2 n2 c2 p3 n3 c3 p4 n4 c4 p5 n5 c5 p6 n6 c6 act lw lh ll hd nm eh el ep en ec I w)(h1:Kp Zx w 119 #[.agg #[.slice p0 n0 c0,.slice p1 n1 c1,.slice p2 n2 c2,.slice p3 n3 c3,.slice p4 n4 c4,.slice p5 n5 c5,.slice p6 n6 c6],.string hd] (.int .i64 I))(hI:Hid (¬I<0)) :
  Kp Zx w 181 #[.agg #[.slice p0 n0 c0,.slice p1 n1 c1,.slice p2 n2 c2,.slice p3 n3 c3,.slice p4 n4 c4,.slice p5 n5 c5,.slice p6 n6 c6],.int .i64 act,.agg #[.int .u8 6,.int .i64 lw,.int .u64 lh,.int .u64 ll,.string hd,.string nm,.int .i64 eh,.int .i64 el,.slice ep en ec]] (.tuple #[.agg #[.int .i64 0,.bool true,.bool false],.int .i64 0]):=by
 open Z renaming alj→Jl in exact IZ
theorem eS(p0 n0 c0 p1 n1 c1 p2 n2 c2 p3 n3 c3 p4 n4 c4 p5 n5 c5 p6 n6 c6 act lw lh ll hd nm eh el ep en ec)(op:Int)(I w)(h1:Kp Zx w 119 #[.agg #[.slice p0 n0 c0,.slice p1 n1 c1,.slice p2 n2 c2,.slice p3 n3 c3,.slice p4 n4 c4,.slice p5 n5 c5,.slice p6 n6 c6],.string hd] (.int .i64 I))(o1:Hid ((op==1)=false))(o2:Hid ((op==2)=false))(o3:Hid ((op==3)=false))(o4:Hid ((op==4)=false))(o6:Hid ((op==6)=false)) :
  Kp Zx w 181 #[.agg #[.slice p0 n0 c0,.slice p1 n1 c1,.slice p2 n2 c2,.slice p3 n3 c3,.slice p4 n4 c4,.slice p5 n5 c5,.slice p6 n6 c6],.int .i64 act,.agg #[.int .u8 op,.int .i64 lw,.int .u64 lh,.int .u64 ll,.string hd,.string nm,.int .i64 eh,.int .i64 el,.slice ep en ec]] (.tuple #[.agg #[.int .i64 9,.bool false,.bool false],.int .i64 0]):=by
 open Z renaming alk→Jl in exact IZ
theorem LD(w:World)(o:Obj):∃x,w.alloc o=plus w x:=by
 have:=Qy w ⟨#[],w.drawn⟩ o;rwa [Yk]at this
theorem OO(p:Pr)(w:World)(h:p.In w)(hz:p.sz≤1048576)(s):Kp Zx w 119 #[.agg #[.slice p.headers.p p.headers.l.length p.headers.cap,.slice p.metas.p p.metas.l.length p.metas.cap,.slice p.states.p p.states.l.length p.states.cap,.slice p.actions.p p.actions.l.length p.actions.cap,.slice p.tables.p p.tables.l.length p.tables.cap,.slice p.control.p p.control.l.length p.control.cap,.slice p.emit.p p.emit.l.length p.emit.cap],.string s] (.int .i64 (YF p.headers.l s)):=by
 intro y0;have hp:=h.plus y0;obtain⟨W,hW⟩:=ZB (plus w y0);rw[hW]at hp ⊢;clear hW;have hl:p.headers.l.length≤1048576:=atT;have hA:=fun z=>hp.headers.row.plus z;obtain⟨n,hn⟩:=ZB p.headers.l.length;obtain⟨R,hR⟩:=ZB (YF p.headers.l s);have h0:YL (fun x=>x.name.toList==s.toList) (p.headers.l.drop 0) 0=R:=hR;open Z renaming alN→G1 in exact DA
theorem JU(p:Pr)(w:World)(h:p.In w)(hz:p.sz≤1048576)(s):Kp Zx w 44 #[.agg #[.slice p.headers.p p.headers.l.length p.headers.cap,.slice p.metas.p p.metas.l.length p.metas.cap,.slice p.states.p p.states.l.length p.states.cap,.slice p.actions.p p.actions.l.length p.actions.cap,.slice p.tables.p p.tables.l.length p.tables.cap,.slice p.control.p p.control.l.length p.control.cap,.slice p.emit.p p.emit.l.length p.emit.cap],.string s] (.int .i64 (XD p.actions.l s)):=by
 intro y0;have hp:=h.plus y0;obtain⟨W,hW⟩:=ZB (plus w y0);rw[hW]at hp ⊢;clear hW;have hl:p.actions.l.length≤1048576:=atT;have hA:=fun z=>hp.actions.row.plus z;obtain⟨n,hn⟩:=ZB p.actions.l.length;obtain⟨R,hR⟩:=ZB (XD p.actions.l s);have h0:YL (fun x=>x.name.toList==s.toList) (p.actions.l.drop 0) 0=R:=hR;open Z renaming alO→G1 in exact DA
theorem yJ(p:Pr)(w:World)(h:p.In w)(hz:p.sz≤1048576)(s):Kp Zx w 178 #[.agg #[.slice p.headers.p p.headers.l.length p.headers.cap,.slice p.metas.p p.metas.l.length p.metas.cap,.slice p.states.p p.states.l.length p.states.cap,.slice p.actions.p p.actions.l.length p.actions.cap,.slice p.tables.p p.tables.l.length p.tables.cap,.slice p.control.p p.control.l.length p.control.cap,.slice p.emit.p p.emit.l.length p.emit.cap],.string s] (.int .i64 (Tp p.tables.l s)):=by
 intro y0;have hp:=h.plus y0;obtain⟨W,hW⟩:=ZB (plus w y0);rw[hW]at hp ⊢;clear hW;have hl:p.tables.l.length≤1048576:=atT;have hA:=fun z=>hp.tables.row.plus z;obtain⟨n,hn⟩:=ZB p.tables.l.length;obtain⟨R,hR⟩:=ZB (Tp p.tables.l s);have h0:YL (fun x=>x.name.toList==s.toList) (p.tables.l.drop 0) 0=R:=hR;open Z renaming alP→G1 in exact DA
theorem FT(K:Fd→Prop)(w:World)(A:Sl Fd)(hA:A.In w 2 Fd.cells K)(hl:A.l.length≤1048576)(s):Kp Zx w 184 #[A.v,.string s] (.int .i64 (Xv A.l s)):=by
 intro y0;obtain⟨p,cap,l⟩:=A;simp only[Sl.v]at hl ⊢;obtain⟨n,hn⟩:=ZB l.length;have hA:=hA.row.plus y0;obtain⟨W,hW⟩:=ZB (plus w y0);rw[hW]at hA ⊢;rw[hn]at hl;clear hW;obtain⟨R,hR⟩:=ZB (Xv l s);have h0:YL (fun x=>x.name.toList==s.toList) (l.drop 0) 0=R:=hR;rw[hn,hR];have YV:=Zf hA;have ZO:=Zf hn;have Yt:=Zf hl;have YM:=Zf h0;have hx:Hid (∃z,W=plus W z):=Zf ⟨_,(Yk W).symm⟩;clear hA hl hn hR h0;go_enter func184,ntmps184;go_wp2;go_loopw [5] (fun iv wr=>∃k:Nat,k≤n∧iv=.int .i64 (k:Int)∧Hid (YL (fun x=>x.name.toList==s.toList) (l.drop k) k=R)∧wr=W) (fun iv _=>n-(intOf iv).toNat)
 case atStart=>exact⟨0,Zw _,rfl,YM,rfl⟩
 case round =>
  obtain⟨k,hk,rfl,hs,rfl⟩:=hrel;by_cases ZC:k<n
  ·obtain⟨a,ha⟩:=Yq l k asG
   obtain⟨pa,Yw,hc⟩:=YV.out k a ha;have ZQ:=(P8 (fun x=>x.name.toList==s.toList) l k a ha).symm.trans hs.out;have d0:=hc.c0 _ rfl;have a6:=Zf (Y7 k n ZC Yt.out);clear hc ha hs;rw[Yw];by_cases hZ:(a.name.toList==s.toList)=true
   ·have ZP:=Zf (show (k:Int)=R from atD)
    clear ZQ;exact MC
   ·have ZP:=Zf (show YL (fun x=>x.name.toList==s.toList) (l.drop (k+1)) (k+1)=R by rw[←ZQ,if_neg hZ])
    exact Kc
  ·exact Kd
theorem FU(K:ByteArray→Prop)(w:World)(A:Sl ByteArray)(hA:A.In w 1 V1 K)(hl:A.l.length≤1048576)(s):Kp Zx w 179 #[A.v,.string s] (.int .i64 (XT A.l s)):=by
 intro y0;obtain⟨p,cap,l⟩:=A;simp only[Sl.v]at hl ⊢;obtain⟨n,hn⟩:=ZB l.length;have hA:=hA.row.plus y0;obtain⟨W,hW⟩:=ZB (plus w y0);rw[hW]at hA ⊢;rw[hn]at hl;clear hW;obtain⟨R,hR⟩:=ZB (XT l s);have h0:YL (fun x=>x.toList==s.toList) (l.drop 0) 0=R:=hR;rw[hn,hR];have YV:=Zf hA;have ZO:=Zf hn;have Yt:=Zf hl;have YM:=Zf h0;have hx:Hid (∃z,W=plus W z):=Zf ⟨_,(Yk W).symm⟩;clear hA hl hn hR h0;go_enter func179,ntmps179;go_wp2;go_loopw [5] (fun iv wr=>∃k:Nat,k≤n∧iv=.int .i64 (k:Int)∧Hid (YL (fun x=>x.toList==s.toList) (l.drop k) k=R)∧wr=W) (fun iv _=>n-(intOf iv).toNat)
 case atStart=>exact⟨0,Zw _,rfl,YM,rfl⟩
 case round =>
  obtain⟨k,hk,rfl,hs,rfl⟩:=hrel;by_cases ZC:k<n
  ·obtain⟨a,ha⟩:=Yq l k asG
   obtain⟨pa,Yw,hc⟩:=YV.out k a ha;have ZQ:=(P8 (fun x=>x.toList==s.toList) l k a ha).symm.trans hs.out;have d0:=hc.c0 _ rfl;simp only[Nat.mul_one]at d0;have a6:=Zf (Y7 k n ZC Yt.out);clear hc ha hs;rw[Yw];by_cases hZ:(a.toList==s.toList)=true
   ·have ZP:=Zf (show (k:Int)=R from atD)
    clear ZQ;exact MC
   ·have ZP:=Zf (show YL (fun x=>x.toList==s.toList) (l.drop (k+1)) (k+1)=R by rw[←ZQ,if_neg hZ])
    have hZ:(a.toList==s.toList)=false:=by simpa using hZ
    exact sr
  ·exact Kd
end Go.Proofs.YtknmeggfokpbjaaGreat

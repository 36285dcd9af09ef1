/-
  WHAT IS PROVED HERE: a part of the proof (made narrower and merged by program; the parts: Vt).
-/
import Derived.Test.YtknmeggfokpbjaaGreatM14
set_option maxRecDepth 100000
set_option maxHeartbeats 8000000
set_option linter.all false
namespace Go.Proofs.YtknmeggfokpbjaaGreat
open Z
open Go.RowKit Go.Proofs.Tryz
open Lib renaming hid→Zf
open List renaming drop_succ_cons→Zg,drop_zero→Zh,getElem?_eq_some_iff→Zi,mem_of_getElem?→Zo,take_succ_cons→Zs
open Go.Proofs.Tryz renaming prog→Zx
open Go.RowKit
theorem jS(p0 n0 c0 p1 n1 c1 p2 n2 c2 p3 n3 c3 p4 n4 c4 p5 n5 c5 p6 n6 c6 act lw lh ll hd nm eh el ep en ec op w)(hN:Kp Zx w 94 #[.agg #[.slice p0 n0 c0,.slice p1 n1 c1,.slice p2 n2 c2,.slice p3 n3 c3,.slice p4 n4 c4,.slice p5 n5 c5,.slice p6 n6 c6],.int .i64 act,.agg #[.int .u8 op,.int .i64 lw,.int .u64 lh,.int .u64 ll,.string hd,.string nm,.int .i64 eh,.int .i64 el,.slice ep en ec]] (.int .i64 7)) :
  Yr Zx w 47 #[.agg #[.slice p0 n0 c0,.slice p1 n1 c1,.slice p2 n2 c2,.slice p3 n3 c3,.slice p4 n4 c4,.slice p5 n5 c5,.slice p6 n6 c6,.int .i64 act],.agg #[.int .u8 op,.int .i64 lw,.int .u64 lh,.int .u64 ll,.string hd,.string nm,.int .i64 eh,.int .i64 el,.slice ep en ec]] (YJ 7):=by
 open Z renaming adW→KX in exact Im
theorem jP(p0 n0 c0 p1 n1 c1 p2 n2 c2 p3 n3 c3 p4 n4 c4 p5 n5 c5 p6 n6 c6 act lw lh ll hd nm eh el ep en ec w)(hN:Kp Zx w 94 #[.agg #[.slice p0 n0 c0,.slice p1 n1 c1,.slice p2 n2 c2,.slice p3 n3 c3,.slice p4 n4 c4,.slice p5 n5 c5,.slice p6 n6 c6],.int .i64 act,.agg #[.int .u8 1,.int .i64 lw,.int .u64 lh,.int .u64 ll,.string hd,.string nm,.int .i64 eh,.int .i64 el,.slice ep en ec]] (.int .i64 0)) :
  Yr Zx w 47 #[.agg #[.slice p0 n0 c0,.slice p1 n1 c1,.slice p2 n2 c2,.slice p3 n3 c3,.slice p4 n4 c4,.slice p5 n5 c5,.slice p6 n6 c6,.int .i64 act],.agg #[.int .u8 1,.int .i64 lw,.int .u64 lh,.int .u64 ll,.string hd,.string nm,.int .i64 eh,.int .i64 el,.slice ep en ec]] (.returned (.agg #[.int .i64 lw,.bool false,.bool (lw==0)])):=by
 open Z renaming adX→KX in exact Im
theorem jN(p0 n0 c0 p1 n1 c1 p2 n2 c2 p3 n3 c3 p4 n4 c4 p5 n5 c5 p6 n6 c6 act lw lh ll hd nm eh el ep en ec tw w)(k:Kp Zx w 125 #[.agg #[.slice p0 n0 c0,.slice p1 n1 c1,.slice p2 n2 c2,.slice p3 n3 c3,.slice p4 n4 c4,.slice p5 n5 c5,.slice p6 n6 c6,.int .i64 act],.string hd,.string nm] (.int .i64 tw))(hN:Kp Zx w 94 #[.agg #[.slice p0 n0 c0,.slice p1 n1 c1,.slice p2 n2 c2,.slice p3 n3 c3,.slice p4 n4 c4,.slice p5 n5 c5,.slice p6 n6 c6],.int .i64 act,.agg #[.int .u8 2,.int .i64 lw,.int .u64 lh,.int .u64 ll,.string hd,.string nm,.int .i64 eh,.int .i64 el,.slice ep en ec]] (.int .i64 0)) :
  Yr Zx w 47 #[.agg #[.slice p0 n0 c0,.slice p1 n1 c1,.slice p2 n2 c2,.slice p3 n3 c3,.slice p4 n4 c4,.slice p5 n5 c5,.slice p6 n6 c6,.int .i64 act],.agg #[.int .u8 2,.int .i64 lw,.int .u64 lh,.int .u64 ll,.string hd,.string nm,.int .i64 eh,.int .i64 el,.slice ep en ec]] (.returned (.agg #[.int .i64 tw,.bool false,.bool false])):=by
 exact vc
theorem jR(p0 n0 c0 p1 n1 c1 p2 n2 c2 p3 n3 c3 p4 n4 c4 p5 n5 c5 p6 n6 c6 act lw lh ll hd nm eh el ep en ec tw w)(k:Kp Zx w 126 #[.agg #[.slice p0 n0 c0,.slice p1 n1 c1,.slice p2 n2 c2,.slice p3 n3 c3,.slice p4 n4 c4,.slice p5 n5 c5,.slice p6 n6 c6,.int .i64 act],.string nm] (.int .i64 tw))(hN:Kp Zx w 94 #[.agg #[.slice p0 n0 c0,.slice p1 n1 c1,.slice p2 n2 c2,.slice p3 n3 c3,.slice p4 n4 c4,.slice p5 n5 c5,.slice p6 n6 c6],.int .i64 act,.agg #[.int .u8 3,.int .i64 lw,.int .u64 lh,.int .u64 ll,.string hd,.string nm,.int .i64 eh,.int .i64 el,.slice ep en ec]] (.int .i64 0)) :
  Yr Zx w 47 #[.agg #[.slice p0 n0 c0,.slice p1 n1 c1,.slice p2 n2 c2,.slice p3 n3 c3,.slice p4 n4 c4,.slice p5 n5 c5,.slice p6 n6 c6,.int .i64 act],.agg #[.int .u8 3,.int .i64 lw,.int .u64 lh,.int .u64 ll,.string hd,.string nm,.int .i64 eh,.int .i64 el,.slice ep en ec]] (.returned (.agg #[.int .i64 tw,.bool false,.bool false])):=by
 exact vc
theorem jT(p0 n0 c0 p1 n1 c1 p2 n2 c2 p4 n4 c4 p5 n5 c5 p6 n6 c6)(pa:Addr)(n nc:Nat)(lw lh ll hd nm eh el ep en ec xn yn)(a i:Nat)(fp:Addr)(fn fc:Nat)(bp bn bc tw)(w:World)(ha:a<n)(hi:i<fn)(m1:Yg w (pa.add (a*3)) [.string xn,.slice (some fp) fn fc,.slice bp bn bc])(m2:Yg w (fp.add (i*2)) [.string yn,.int .i64 tw])(k:Kp Zx w 91 #[.agg #[.slice p0 n0 c0,.slice p1 n1 c1,.slice p2 n2 c2,.slice (some pa) n nc,.slice p4 n4 c4,.slice p5 n5 c5,.slice p6 n6 c6],.int .i64 (a:Int),.string nm] (.int .i64 (i:Int)))(hN:Kp Zx w 94 #[.agg #[.slice p0 n0 c0,.slice p1 n1 c1,.slice p2 n2 c2,.slice (some pa) n nc,.slice p4 n4 c4,.slice p5 n5 c5,.slice p6 n6 c6],.int .i64 (a:Int),.agg #[.int .u8 4,.int .i64 lw,.int .u64 lh,.int .u64 ll,.string hd,.string nm,.int .i64 eh,.int .i64 el,.slice ep en ec]] (.int .i64 0)) :
  Yr Zx w 47 #[.agg #[.slice p0 n0 c0,.slice p1 n1 c1,.slice p2 n2 c2,.slice (some pa) n nc,.slice p4 n4 c4,.slice p5 n5 c5,.slice p6 n6 c6,.int .i64 (a:Int)],.agg #[.int .u8 4,.int .i64 lw,.int .u64 lh,.int .u64 ll,.string hd,.string nm,.int .i64 eh,.int .i64 el,.slice ep en ec]] (.returned (.agg #[.int .i64 tw,.bool false,.bool false])):=by
 intro y0;have hN:=hN.up y0;have m1:=m1.plus y0;have m2:=m2.plus y0;have k:=k.up y0;obtain⟨V,hV⟩:=ZB (plus w y0);rw[hV]at hN m1 m2 k ⊢;clear hV;have Sz:=Zf hN;have m1':=Zf m1;have m2':=Zf m2;have k':=Zf k;clear hN m1 m2 k;go_enter func47,ntmps47;go_wp2_with fail;obtain⟨X,Y0,hX,⟨zX,ZE⟩,-,ca,cb,cc,fc⟩:=Tb V _ _ _ 90 45 75;open Z renaming ank→WL in exact WO
theorem jV(p0 n0 c0 p1 n1 c1 p2 n2 c2 p3 n3 c3 p4 n4 c4 p5 n5 c5 p6 n6 c6 act lw lh ll hd nm eh el ep en ec w)(hN:Kp Zx w 94 #[.agg #[.slice p0 n0 c0,.slice p1 n1 c1,.slice p2 n2 c2,.slice p3 n3 c3,.slice p4 n4 c4,.slice p5 n5 c5,.slice p6 n6 c6],.int .i64 act,.agg #[.int .u8 6,.int .i64 lw,.int .u64 lh,.int .u64 ll,.string hd,.string nm,.int .i64 eh,.int .i64 el,.slice ep en ec]] (.int .i64 0)) :
  Yr Zx w 47 #[.agg #[.slice p0 n0 c0,.slice p1 n1 c1,.slice p2 n2 c2,.slice p3 n3 c3,.slice p4 n4 c4,.slice p5 n5 c5,.slice p6 n6 c6,.int .i64 act],.agg #[.int .u8 6,.int .i64 lw,.int .u64 lh,.int .u64 ll,.string hd,.string nm,.int .i64 eh,.int .i64 el,.slice ep en ec]] (.returned (.agg #[.int .i64 0,.bool true,.bool false])):=by
 open Z renaming adY→KX in exact Im
theorem jU(p0 n0 c0 p1 n1 c1 p2 n2 c2 p3 n3 c3 p4 n4 c4 p5 n5 c5 p6 n6 c6 act lw lh ll hd nm eh el ep en ec)(op:Int)(w)(o1:(op==1)=false)(o2:(op==2)=false)(o3:(op==3)=false)(o4:(op==4)=false)(o6:(op==6)=false)(hN:Kp Zx w 94 #[.agg #[.slice p0 n0 c0,.slice p1 n1 c1,.slice p2 n2 c2,.slice p3 n3 c3,.slice p4 n4 c4,.slice p5 n5 c5,.slice p6 n6 c6],.int .i64 act,.agg #[.int .u8 op,.int .i64 lw,.int .u64 lh,.int .u64 ll,.string hd,.string nm,.int .i64 eh,.int .i64 el,.slice ep en ec]] (.int .i64 0)) :
  Yr Zx w 47 #[.agg #[.slice p0 n0 c0,.slice p1 n1 c1,.slice p2 n2 c2,.slice p3 n3 c3,.slice p4 n4 c4,.slice p5 n5 c5,.slice p6 n6 c6,.int .i64 act],.agg #[.int .u8 op,.int .i64 lw,.int .u64 lh,.int .u64 ll,.string hd,.string nm,.int .i64 eh,.int .i64 el,.slice ep en ec]] (.returned (.agg #[.int .i64 9,.bool false,.bool false])):=by
 open Z renaming adZ→KX in exact Im
theorem jO(p:Pr)(act:Int)(e:Ex):(XS p act e.op e.lit.w e.head e.name).1=if YP p act e then 0 else 7:=by
 unfold XS YP;by_cases o1:e.op=1
 ·simp[o1]
 rw[if_neg o1];by_cases o2:e.op=2
 ·rw[if_pos o2,if_pos o2]
  by_cases q:X5 p (YF p.headers.l e.head) e.name=-1 <;> simp[q]
 rw[if_neg o2,if_neg o2];by_cases o3:e.op=3
 ·rw[if_pos o3,if_pos o3]
  by_cases q:Xv p.metas.l e.name=-1 <;> simp[q]
 rw[if_neg o3,if_neg o3];by_cases o4:e.op=4
 ·rw[if_pos o4,if_pos o4]
  by_cases q:WN p act e.name=-1 <;> simp[q]
 rw[if_neg o4,if_neg o4];by_cases o6:e.op=6
 ·rw[if_pos o6,if_pos o6]
  by_cases q:YF p.headers.l e.head=-1 <;> simp[q]
 rw[if_neg o6,if_neg o6];rfl
theorem aI(p:Pr)(w:World)(ZF:p.In w)(hz:p.sz≤1048576)(act:Int)(e:Ex)(he:e.In w)(hw:e.wt≤1048576)(h0:e.args=[]) :
  Yr Zx w 47 #[Rp p act,e.val] (Yl (XS p act e.op e.lit.w e.head e.name).1 (XS p act e.op e.lit.w e.head e.name).2.v):=by
 have hN:=JR p w ZF hz act e he hw;have hL:=jO p act e;have hth:e.there (YP p act)=YP p act e:=by rw[Ex.there_eq,h0];simp
 rw[hth]at hN;by_cases hb:¬YP p act e=true
 ·rw[if_neg hb]at hN hL
  rw[hL,Yl,if_neg asE];exact jS _ _ _ _ _ _ _ _ _ _ _ _ _ _ _ _ _ _ _ _ _ _ _ _ _ _ _ _ _ _ _ _ _ w hN
 replace hb:=Classical.not_not.1 hb;rw[if_pos hb]at hN hL;rw[hL,Yl,if_pos rfl];have q2:e.op=2→X5 p (YF p.headers.l e.head) e.name≠-1:=fun o=>atN;have q3:e.op=3→Xv p.metas.l e.name≠-1:=fun o=>atN;have q4:e.op=4→WN p act e.name≠-1:=fun o=>atN;have q6:e.op=6→YF p.headers.l e.head≠-1:=fun o=>atN;clear hb;obtain⟨op,⟨lw,lh,ll⟩,hd,nm,eh,el,ep,ec,eargs⟩:=e;simp only[Ex.val,Ex.cells,Ex.op,Ex.lit,Ex.head,Ex.name,Ex.hi,Ex.lo,Ex.p,Ex.args,Ex.cap]at hN q2 q3 q4 q6 ⊢;by_cases o1:op=1
 ·subst o1
  exact jP _ _ _ _ _ _ _ _ _ _ _ _ _ _ _ _ _ _ _ _ _ _ _ _ _ _ _ _ _ _ _ _ w hN
 by_cases o2:op=2
 ·subst o2
  have q:=q2 rfl;have hv:XS p act 2 lw hd nm=(0,XN (TM p (YF p.headers.l hd) (X5 p (YF p.headers.l hd) nm))):=by unfold XS;rw[if_neg (by decide),if_pos rfl,if_neg q]
  rw[hv];exact jN _ _ _ _ _ _ _ _ _ _ _ _ _ _ _ _ _ _ _ _ _ _ _ _ _ _ _ _ _ _ _ _ _ w (xv p w ZF hz act hd nm q) hN
 by_cases o3:op=3
 ·subst o3
  have q:=q3 rfl;have hv:XS p act 3 lw hd nm=(0,XN (TE p.metas.l (Xv p.metas.l nm))):=by unfold XS;rw[if_neg (by decide),if_neg (by decide),if_pos rfl,if_neg q]
  rw[hv];exact jR _ _ _ _ _ _ _ _ _ _ _ _ _ _ _ _ _ _ _ _ _ _ _ _ _ _ _ _ _ _ _ _ _ w (xx p w ZF hz act nm q) hN
 by_cases o4:op=4
 ·subst o4
  have q:=q4 rfl;open Z renaming akS→A2 in exact ts
 by_cases o6:op=6
 ·subst o6
  have q:=q6 rfl;have hv:XS p act 6 lw hd nm=(0,⟨0,true,false⟩):=by unfold XS;rw[if_neg (by decide),if_neg (by decide),if_neg (by decide),if_neg (by decide),if_pos rfl,if_neg q]
  rw[hv];exact jV _ _ _ _ _ _ _ _ _ _ _ _ _ _ _ _ _ _ _ _ _ _ _ _ _ _ _ _ _ _ _ _ w hN
 have hv:XS p act op lw hd nm=(0,XN 9):=aus;rw[hv];exact jU _ _ _ _ _ _ _ _ _ _ _ _ _ _ _ _ _ _ _ _ _ _ _ _ _ _ _ _ _ _ _ _ _ w (by simpa using o1) (by simpa using o2) ato (by simpa using o4) atp hN
end Go.Proofs.YtknmeggfokpbjaaGreat

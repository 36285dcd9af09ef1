/-
  WHAT IS PROVED HERE: a part of the proof (made narrower and merged by program; the parts: JA J1 J2 J3 J4 Jd Ji0 Ji1 Ji2 Ji3 Ho).
-/
import Derived.Test.YtknmeggfokpbjaaGreatM8
import Derived.Test.YtknmeggfokpbjaaGreatM16
import Derived.Test.YtknmeggfokpbjaaGreatM10
import Derived.Test.YtknmeggfokpbjaaGreatM3
set_option maxRecDepth 100000
set_option maxHeartbeats 8000000
set_option linter.all false
namespace Go.Proofs.YtknmeggfokpbjaaGreat
open Z
open Go.RowKit Go.Proofs.Tryz
open Ending renaming returned→Zd
open Lib renaming hid→Zf
open List renaming mem_of_getElem?→Zo
open Nat renaming le_refl→Zt,zero_le→Zw
open Go.Proofs.Tryz renaming prog→Zx
open Value renaming bool→Zy,int→Zz
open Go.RowKit
theorem dQ(a w) :
  Kp Zx w 169 #[.int .i64 a] (.bool (decide (0<a)&&decide (a<129))):=by
 intro y0;obtain⟨V,hV⟩:=ZB (plus w y0);rw[hV]at ⊢;clear hV;obtain⟨R,hR⟩:=ZB (decide (0<a)&&decide (a<129));rw[hR];by_cases q1:0<a
 case neg =>
  open Z renaming DH→WV in exact WX
 case pos =>
  by_cases q2:a<129
  case neg =>
   open Z renaming DH→Vg in exact Vk
  case pos =>
   open Z renaming DH→RN in exact R8
theorem cz(a0 a1 a2 s0 s1 w)(h0:Kp Zx w 169 #[.int .i64 a0] (.bool s0))(h1:Kp Zx w 122 #[.agg #[.int .u64 a1,.int .u64 a2],.int .i64 a0] (.bool s1)) :
  Kp Zx w 175 #[.agg #[.int .i64 a0,.int .u64 a1,.int .u64 a2]] (.bool ((a0==0)||(s0&&s1))):=by
 open Z renaming ad9→Sk in exact Sp
theorem bb(s s0 w)(h0:Kp Zx w 104 #[.string s] (.bool s0)) :
  Kp Zx w 170 #[.string s] (.bool (s0||((s.toList==[97,99,99,101,112,116])||(s.toList==[114,101,106,101,99,116])))):=by
 open Z renaming aiY→SK in exact SX
theorem SS(s w):Kp Zx w 104 #[.string s] (.bool (YK s)):=Kp.all (dM s)
theorem yY(a w):Kp Zx w 169 #[.int .i64 a] (.bool (PF a)):=(dQ a w).eqv (by
 unfold PF;have h1:decide (0<a)=decide (1≤a):=by rw[decide_eq_decide];omega
 have h2:decide (a<129)=decide (a≤128):=by rw[decide_eq_decide];omega
 rw[h1,h2])
theorem JY(t:Lt)(w)(h:t.Ok):Kp Zx w 175 #[.agg t.cells.toArray] (.bool (UX t)) :=
 cz t.w t.h t.l _ _ w (yY t.w w) (Kp.all (by rw[Lt.nv_eq h];exact FY t.n t.w (Lt.n_lt h)))
theorem yU(s w):Kp Zx w 170 #[.string s] (.bool (Mn s)):=(bb s _ w (SS s w)).eqv (by
 unfold Mn;cases YK s <;> simp)
theorem cC(K:ByteArray→Prop)(w:World)(A:Sl ByteArray)(hA:A.In w 1 V1 K)(hl:A.l.length≤1048576)(hf:∀x∈A.l,Kp Zx w 104 #[.string x] (.bool (YK x))) :
  Kp Zx w 109 #[A.v] (.bool (A.l.all YK)):=by
 open Z renaming apk→zy in exact pD
theorem cu(K:Fd→Prop)(w:World)(A:Sl Fd)(hA:A.In w 2 Fd.cells K)(hl:A.l.length≤1048576)(hf:∀x∈A.l,Kp Zx w 104 #[.string x.name] (.bool (YK x.name)))(hg:∀x∈A.l,Kp Zx w 169 #[.int .i64 x.w] (.bool (PF x.w))) :
  Kp Zx w 105 #[A.v] (.bool (A.l.all VO)):=by
 intro y0;obtain⟨p,cap,l⟩:=A;simp only[Sl.v]at hl hf hg ⊢;obtain⟨n,hn⟩:=ZB l.length;have hA:=hA.row.plus y0;have hf:=fun x hx=>((hf x hx).up y0).pure;have hg:=fun x hx=>((hg x hx).up y0).pure;obtain⟨W,hW⟩:=ZB (plus w y0);rw[hW]at hA ⊢;simp only[hW]at hf hg ;rw[hn]at hl;clear hW;obtain⟨R,hR⟩:=ZB (l.all VO);have h0:(l.drop 0).all VO=R:=hR;open Z renaming ago→Pl in exact PI
theorem JZ(L:Sl ByteArray)(w:World)(h:L.In w 1 V1 V2)(hz:L.size Y1≤1048576):Kp Zx w 109 #[L.v] (.bool (L.l.all YK)) :=
 cC _ w L h (xj _ hz) (fun x _=>SS x w)
theorem F2(L:Sl Fd)(w:World)(h:L.In w 2 Fd.cells (Fd.In w))(hz:L.size Fd.sz≤1048576):Kp Zx w 105 #[L.v] (.bool (L.l.all VO)) :=
 cu _ w L h (Xk Fd.sz Fd.sz_pos _ hz) (fun x _=>SS x.name w) (fun x _=>yY x.w w)
theorem cf(may:Ex→Bool)(K:Ex→Prop)(w:World)(A:Sl Ex)(hA:A.In w 9 Ex.cells K)(hl:A.l.length≤1048576)(hf:∀x∈A.l,Kp Zx w 174 #[.agg x.cells.toArray] (.bool (may x))) :
  Kp Zx w 171 #[A.v] (.bool (A.l.all may)):=by
 open Z renaming apl→zy in exact pD
theorem ft(a1 a2 a3 a4 a5 a6 a7 a8p a8n a8c s0 w)(h0:Kp Zx w 175 #[.agg #[.int .i64 a1,.int .u64 a2,.int .u64 a3]] (.bool s0)) :
  Kp Zx w 220 #[.agg #[.int .u8 1,.int .i64 a1,.int .u64 a2,.int .u64 a3,.string a4,.string a5,.int .i64 a6,.int .i64 a7,.slice a8p a8n a8c]] (.bool ((!((a8n:Int) !=0))&&((a4.toList==[])&&((a5.toList==[])&&((s0)&&((a6==0)&&(a7==0))))))):=by
 open Z renaming aiZ→SK in exact SX
theorem fy(a1 a2 a3 a4 a5 a6 a7 a8p a8n a8c s0 s1 w)(h0:Kp Zx w 104 #[.string a4] (.bool s0))(h1:Kp Zx w 104 #[.string a5] (.bool s1)) :
  Kp Zx w 220 #[.agg #[.int .u8 2,.int .i64 a1,.int .u64 a2,.int .u64 a3,.string a4,.string a5,.int .i64 a6,.int .i64 a7,.slice a8p a8n a8c]] (.bool ((!((a8n:Int) !=0))&&((!(a4.toList==[])&&s0)&&((!(a5.toList==[])&&s1)&&(((a1==0)&&((a2==0)&&(a3==0)))&&((a6==0)&&(a7==0))))))):=by
 open Z renaming aea→Sk in exact Sp
theorem fB(a1 a2 a3 a4 a5 a6 a7 a8p a8n a8c s0 w)(h0:Kp Zx w 104 #[.string a5] (.bool s0)) :
  Kp Zx w 220 #[.agg #[.int .u8 3,.int .i64 a1,.int .u64 a2,.int .u64 a3,.string a4,.string a5,.int .i64 a6,.int .i64 a7,.slice a8p a8n a8c]] (.bool ((!((a8n:Int) !=0))&&((a4.toList==[])&&((!(a5.toList==[])&&s0)&&(((a1==0)&&((a2==0)&&(a3==0)))&&((a6==0)&&(a7==0))))))):=by
 exact rS
theorem fC(a1 a2 a3 a4 a5 a6 a7 a8p a8n a8c s0 w)(h0:Kp Zx w 104 #[.string a5] (.bool s0)) :
  Kp Zx w 220 #[.agg #[.int .u8 4,.int .i64 a1,.int .u64 a2,.int .u64 a3,.string a4,.string a5,.int .i64 a6,.int .i64 a7,.slice a8p a8n a8c]] (.bool ((!((a8n:Int) !=0))&&((a4.toList==[])&&((!(a5.toList==[])&&s0)&&(((a1==0)&&((a2==0)&&(a3==0)))&&((a6==0)&&(a7==0))))))):=by
 exact rS
theorem fD(a1 a2 a3 a4 a5 a6 a7 a8p a8n a8c w) :
  Kp Zx w 220 #[.agg #[.int .u8 5,.int .i64 a1,.int .u64 a2,.int .u64 a3,.string a4,.string a5,.int .i64 a6,.int .i64 a7,.slice a8p a8n a8c]] (.bool ((!((a8n:Int) !=0))&&((a4.toList==[])&&((a5.toList==[])&&(((a1==0)&&((a2==0)&&(a3==0)))&&((a6==0)&&(a7==0))))))):=by
 intro y0;obtain⟨V,hV⟩:=ZB (plus w y0);rw[hV]at ⊢;clear hV;obtain⟨R,hR⟩:=ZB ((!((a8n:Int) !=0))&&((a4.toList==[])&&((a5.toList==[])&&(((a1==0)&&((a2==0)&&(a3==0)))&&((a6==0)&&(a7==0))))));rw[hR];by_cases q1:((a8n:Int) !=0)=true
 case neg =>
  have q1:((a8n:Int) !=0)=false:=asJ;exact DN
 case pos =>
  exact Hj
theorem fE(a1 a2 a3 a4 a5 a6 a7 a8p a8n a8c s0 w)(h0:Kp Zx w 104 #[.string a4] (.bool s0)) :
  Kp Zx w 220 #[.agg #[.int .u8 6,.int .i64 a1,.int .u64 a2,.int .u64 a3,.string a4,.string a5,.int .i64 a6,.int .i64 a7,.slice a8p a8n a8c]] (.bool ((!((a8n:Int) !=0))&&((!(a4.toList==[])&&s0)&&((a5.toList==[])&&(((a1==0)&&((a2==0)&&(a3==0)))&&((a6==0)&&(a7==0))))))):=by
 open Z renaming ai0→SK in exact SX
theorem fF(a1 a2 a3 a4 a5 a6 a7 a8p a8n a8c w) :
  Kp Zx w 220 #[.agg #[.int .u8 7,.int .i64 a1,.int .u64 a2,.int .u64 a3,.string a4,.string a5,.int .i64 a6,.int .i64 a7,.slice a8p a8n a8c]] (.bool ((!((a8n:Int) !=1))&&((a4.toList==[])&&((a5.toList==[])&&(((a1==0)&&((a2==0)&&(a3==0)))&&((a6==0)&&(a7==0))))))):=by
 exact DP
theorem fG(a1 a2 a3 a4 a5 a6 a7 a8p a8n a8c w) :
  Kp Zx w 220 #[.agg #[.int .u8 8,.int .i64 a1,.int .u64 a2,.int .u64 a3,.string a4,.string a5,.int .i64 a6,.int .i64 a7,.slice a8p a8n a8c]] (.bool ((!((a8n:Int) !=1))&&((a4.toList==[])&&((a5.toList==[])&&(((a1==0)&&((a2==0)&&(a3==0)))&&((a6==0)&&(a7==0))))))):=by
 exact DP
theorem fH(a1 a2 a3 a4 a5 a6 a7 a8p a8n a8c w) :
  Kp Zx w 220 #[.agg #[.int .u8 9,.int .i64 a1,.int .u64 a2,.int .u64 a3,.string a4,.string a5,.int .i64 a6,.int .i64 a7,.slice a8p a8n a8c]] (.bool ((!((a8n:Int) !=1))&&((a4.toList==[])&&((a5.toList==[])&&(((a1==0)&&((a2==0)&&(a3==0)))&&((a6==0)&&(a7==0))))))):=by
 exact DP
theorem fu(a1 a2 a3 a4 a5 a6 a7 a8p a8n a8c w) :
  Kp Zx w 220 #[.agg #[.int .u8 10,.int .i64 a1,.int .u64 a2,.int .u64 a3,.string a4,.string a5,.int .i64 a6,.int .i64 a7,.slice a8p a8n a8c]] (.bool ((!((a8n:Int) !=1))&&((a4.toList==[])&&((a5.toList==[])&&(((a1==0)&&((a2==0)&&(a3==0)))&&(decide (0≤a7)&&(decide (a7≤a6)&&decide (a6≤127)))))))):=by
 intro y0;obtain⟨V,hV⟩:=ZB (plus w y0);rw[hV]at ⊢;clear hV;obtain⟨R,hR⟩:=ZB ((!((a8n:Int) !=1))&&((a4.toList==[])&&((a5.toList==[])&&(((a1==0)&&((a2==0)&&(a3==0)))&&(decide (0≤a7)&&(decide (a7≤a6)&&decide (a6≤127)))))));rw[hR];by_cases q1:((a8n:Int) !=1)=true
 case neg =>
  have q1:((a8n:Int) !=1)=false:=asJ;by_cases q2:(a4.toList==[])=true
  case neg =>
   exact rT
  case pos =>
   open Z renaming ak8→NU in exact Mz
 case pos =>
  exact Hj
theorem fw(a0:Int)(a1 a2 a3 a4 a5 a6 a7 a8p a8n a8c w)(hk:11≤a0∧a0≤26) :
  Kp Zx w 220 #[.agg #[.int .u8 a0,.int .i64 a1,.int .u64 a2,.int .u64 a3,.string a4,.string a5,.int .i64 a6,.int .i64 a7,.slice a8p a8n a8c]] (.bool ((!((a8n:Int) !=2))&&((a4.toList==[])&&((a5.toList==[])&&(((a1==0)&&((a2==0)&&(a3==0)))&&((a6==0)&&(a7==0))))))):=by
 open Z renaming afd→BZ in exact vr
theorem fq(a1 a2 a3 a4 a5 a6 a7 a8p a8n a8c w) :
  Kp Zx w 220 #[.agg #[.int .u8 0,.int .i64 a1,.int .u64 a2,.int .u64 a3,.string a4,.string a5,.int .i64 a6,.int .i64 a7,.slice a8p a8n a8c]] (.bool (false)):=by
 intro y0;obtain⟨V,hV⟩:=ZB (plus w y0);rw[hV]at ⊢;clear hV;exact qd
theorem fA(a0:Int)(a1 a2 a3 a4 a5 a6 a7 a8p a8n a8c w)(hk:26<a0) :
  Kp Zx w 220 #[.agg #[.int .u8 a0,.int .i64 a1,.int .u64 a2,.int .u64 a3,.string a4,.string a5,.int .i64 a6,.int .i64 a7,.slice a8p a8n a8c]] (.bool (false)):=by
 open Z renaming afe→BZ in exact vr
def Ex.one(e:Ex):Bool:=VT e.op&&(SO (VU e.op) e.lit&&(Uh e.head (V3 e.op)&&(Uh e.name (V4 e.op)&&(Sw e.hi e.lo (Vs e.op)&&((e.args.length:Int)==WD e.op)))))
theorem Vh(s:ByteArray):Uh s 0=(s.toList==[]):=auj
theorem Ma(s:ByteArray):Uh s 1=(!(s.toList==[])&&YK s):=auj
theorem Qw(t:Lt):SO false t=((t.w==0)&&((t.h==0)&&(t.l==0))):=rfl
theorem ig(t:Lt):SO true t=UX t:=rfl
theorem Qj(a b:Int):Sw a b false=((a==0)&&(b==0)):=rfl
theorem lB(a b:Int):Sw a b true=(decide (0≤b)&&(decide (b≤a)&&decide (a≤127))):=by
 unfold Sw;rw[if_pos rfl,show decide (a<128)=decide (a≤127) by rw[decide_eq_decide];omega]
theorem cD(e:Ex)(w:World)(h:e.In w):Kp Zx w 220 #[.agg e.cells.toArray] (.bool e.one):=by
 obtain⟨op,⟨lw,lh,ll⟩,hd,nm,eh,el,p,cap,args⟩:=e;obtain⟨_,W8,lit,_,_,_,_,_,_,_,_⟩:=h;have kh:=SS hd w;have kn:=SS nm w;have kl:=JY ⟨lw,lh,ll⟩ w lit;have hw:0≤op:=by
  simp[Lit.wf,IntKind.min,IntKind.max,IntKind.signed,IntKind.bits,Ex.op]at W8;omega
 unfold Ex.one;simp only[Ex.op,Ex.lit,Ex.head,Ex.name,Ex.hi,Ex.lo,Ex.args];by_cases c0:op=0
 ·subst c0
  exact (fq lw lh ll hd nm eh el p args.length cap w).eqv (by simp[VT])
 by_cases c1:op=1
 ·subst c1
  refine (ft lw lh ll hd nm eh el p args.length cap _ w kl).eqv ?_;rw[show VU 1=true from rfl,show V3 1=0 from rfl,show V4 1=0 from rfl,show Vs 1=false from rfl,show WD 1=0 from rfl,show VT 1=true from rfl,Vh,Vh,ig,Qj];simp only[bne];cases UX ⟨lw,lh,ll⟩ <;> cases (hd.toList==[]) <;> cases (nm.toList==[]) <;> cases ((eh==0)&&(el==0)) <;> cases ((args.length:Int)==0) <;> rfl
 by_cases c2:op=2
 ·subst c2
  refine (fy lw lh ll hd nm eh el p args.length cap _ _ w kh kn).eqv ?_;rw[show VU 2=false from rfl,show V3 2=1 from rfl,show V4 2=1 from rfl,show Vs 2=false from rfl,show WD 2=0 from rfl,show VT 2=true from rfl,Ma,Ma,Qw,Qj];simp only[bne];cases ((lw==0)&&((lh==0)&&(ll==0))) <;> cases (!(hd.toList==[])&&YK hd) <;> cases (!(nm.toList==[])&&YK nm) <;> cases ((eh==0)&&(el==0)) <;> cases ((args.length:Int)==0) <;> rfl
 by_cases c3:op=3
 ·subst c3
  refine (fB lw lh ll hd nm eh el p args.length cap _ w kn).eqv ?_;rw[show VU 3=false from rfl,show V3 3=0 from rfl,show V4 3=1 from rfl,show Vs 3=false from rfl,show WD 3=0 from rfl,show VT 3=true from rfl,Vh,Ma,Qw,Qj];exact qg
 by_cases c4:op=4
 ·subst c4
  refine (fC lw lh ll hd nm eh el p args.length cap _ w kn).eqv ?_;rw[show VU 4=false from rfl,show V3 4=0 from rfl,show V4 4=1 from rfl,show Vs 4=false from rfl,show WD 4=0 from rfl,show VT 4=true from rfl,Vh,Ma,Qw,Qj];exact qg
 by_cases c5:op=5
 ·subst c5
  refine (fD lw lh ll hd nm eh el p args.length cap w).eqv ?_;rw[show VU 5=false from rfl,show V3 5=0 from rfl,show V4 5=0 from rfl,show Vs 5=false from rfl,show WD 5=0 from rfl,show VT 5=true from rfl,Vh,Vh,Qw,Qj];simp only[bne];cases ((lw==0)&&((lh==0)&&(ll==0))) <;> cases (hd.toList==[]) <;> cases (nm.toList==[]) <;> cases ((eh==0)&&(el==0)) <;> cases ((args.length:Int)==0) <;> rfl
 by_cases c6:op=6
 ·subst c6
  refine (fE lw lh ll hd nm eh el p args.length cap _ w kh).eqv ?_;rw[show VU 6=false from rfl,show V3 6=1 from rfl,show V4 6=0 from rfl,show Vs 6=false from rfl,show WD 6=0 from rfl,show VT 6=true from rfl,Ma,Vh,Qw,Qj];simp only[bne];cases ((lw==0)&&((lh==0)&&(ll==0))) <;> cases (!(hd.toList==[])&&YK hd) <;> cases (nm.toList==[]) <;> cases ((eh==0)&&(el==0)) <;> cases ((args.length:Int)==0) <;> rfl
 by_cases c7:op=7
 ·subst c7
  refine (fF lw lh ll hd nm eh el p args.length cap w).eqv ?_;rw[show VU 7=false from rfl,show V3 7=0 from rfl,show V4 7=0 from rfl,show Vs 7=false from rfl,show WD 7=1 from rfl,show VT 7=true from rfl,Vh,Vh,Qw,Qj];exact DQ
 by_cases c8:op=8
 ·subst c8
  refine (fG lw lh ll hd nm eh el p args.length cap w).eqv ?_;rw[show VU 8=false from rfl,show V3 8=0 from rfl,show V4 8=0 from rfl,show Vs 8=false from rfl,show WD 8=1 from rfl,show VT 8=true from rfl,Vh,Vh,Qw,Qj];exact DQ
 by_cases c9:op=9
 ·subst c9
  refine (fH lw lh ll hd nm eh el p args.length cap w).eqv ?_;rw[show VU 9=false from rfl,show V3 9=0 from rfl,show V4 9=0 from rfl,show Vs 9=false from rfl,show WD 9=1 from rfl,show VT 9=true from rfl,Vh,Vh,Qw,Qj];exact DQ
 by_cases c10:op=10
 ·subst c10
  refine (fu lw lh ll hd nm eh el p args.length cap w).eqv ?_;rw[show VU 10=false from rfl,show V3 10=0 from rfl,show V4 10=0 from rfl,show Vs 10=true from rfl,show WD 10=1 from rfl,show VT 10=true from rfl,Vh,Vh,Qw,lB];simp only[bne];cases ((lw==0)&&((lh==0)&&(ll==0))) <;> cases (hd.toList==[]) <;> cases (nm.toList==[]) <;> cases (decide (0≤el)&&(decide (el≤eh)&&decide (eh≤127))) <;> cases ((args.length:Int)==1) <;> rfl
 by_cases c11:op≤26
 ·refine (fw op lw lh ll hd nm eh el p args.length cap w ⟨asB,c11⟩).eqv ?_
  rw[show VU op=false by unfold VU;simp;omega,show V3 op=0 by unfold V3;rw[if_neg asB],show V4 op=0 by unfold V4;rw[if_neg asB],show Vs op=false by unfold Vs;simp;omega,
   show WD op=2 by unfold WD;rw[if_neg asB,if_pos asB],show VT op=true by unfold VT;exact decide_eq_true asB,Vh,Vh,Qw,Qj]
  simp only[bne];cases ((lw==0)&&((lh==0)&&(ll==0))) <;> cases (hd.toList==[]) <;> cases (nm.toList==[]) <;> cases ((eh==0)&&(el==0)) <;> cases ((args.length:Int)==2) <;> rfl
 ·refine (fA op lw lh ll hd nm eh el p args.length cap w asB).eqv ?_
  rw[show VT op=false by unfold VT;exact decide_eq_false asB];rfl
theorem cT(a1 a2 a3 a4 a5 a6 a7 a8 a9 a10 a11p a11n a11c a12p a12n a12c a13p a13n a13c deep s0 w)(h0:Kp Zx w 203 #[.agg #[.int .u8 a3,.int .i64 a4,.int .u64 a5,.int .u64 a6,.string a7,.string a8,.int .i64 a9,.int .i64 a10,.slice a11p a11n a11c],.agg #[.int .u8 0,.int .i64 0,.int .u64 0,.int .u64 0,.string ⟨#[]⟩,.string ⟨#[]⟩,.int .i64 0,.int .i64 0,.slice none 0 0]] (.bool s0)) :
  Kp Zx w 173 #[.agg #[.int .u8 4,.string a1,.string a2,.int .u8 a3,.int .i64 a4,.int .u64 a5,.int .u64 a6,.string a7,.string a8,.int .i64 a9,.int .i64 a10,.slice a11p a11n a11c,.slice a12p a12n a12c,.slice a13p a13n a13c],.int .i64 deep] (.bool ((!(decide ((0:Int)<(a12n:Int))||decide ((0:Int)<(a13n:Int))))&&((!((a3 !=0)||(decide ((0:Int)<(a11n:Int))||!s0)))&&((a1.toList==[])&&(a2.toList==[]))))):=by
 open Z renaming ai1→SK in exact SX
theorem cO(a0:Int)(a1 a2 a3 a4 a5 a6 a7 a8 a9 a10 a11p a11n a11c a12p a12n a12c a13p a13n a13c deep s0 w)(hk:¬(1≤a0∧a0≤7))(h0:Kp Zx w 203 #[.agg #[.int .u8 a3,.int .i64 a4,.int .u64 a5,.int .u64 a6,.string a7,.string a8,.int .i64 a9,.int .i64 a10,.slice a11p a11n a11c],.agg #[.int .u8 0,.int .i64 0,.int .u64 0,.int .u64 0,.string ⟨#[]⟩,.string ⟨#[]⟩,.int .i64 0,.int .i64 0,.slice none 0 0]] (.bool s0)) :
  Kp Zx w 173 #[.agg #[.int .u8 a0,.string a1,.string a2,.int .u8 a3,.int .i64 a4,.int .u64 a5,.int .u64 a6,.string a7,.string a8,.int .i64 a9,.int .i64 a10,.slice a11p a11n a11c,.slice a12p a12n a12c,.slice a13p a13n a13c],.int .i64 deep] (.bool (false)):=by
 open Z renaming ai2→SK in exact SX
theorem cP(a1 a2 a3 a4 a5 a6 a7 a8 a9 a10 a11p a11n a11c a12p a12n a12c a13p a13n a13c deep s0 s1 s2 s3 w)(h0:Kp Zx w 203 #[.agg #[.int .u8 a3,.int .i64 a4,.int .u64 a5,.int .u64 a6,.string a7,.string a8,.int .i64 a9,.int .i64 a10,.slice a11p a11n a11c],.agg #[.int .u8 0,.int .i64 0,.int .u64 0,.int .u64 0,.string ⟨#[]⟩,.string ⟨#[]⟩,.int .i64 0,.int .i64 0,.slice none 0 0]] (.bool s0))(h1:Kp Zx w 104 #[.string a2] (.bool s1))(h2:Kp Zx w 104 #[.string a1] (.bool s2))(h3:Kp Zx w 174 #[.agg #[.int .u8 a3,.int .i64 a4,.int .u64 a5,.int .u64 a6,.string a7,.string a8,.int .i64 a9,.int .i64 a10,.slice a11p a11n a11c]] (.bool s3)) :
  Kp Zx w 173 #[.agg #[.int .u8 1,.string a1,.string a2,.int .u8 a3,.int .i64 a4,.int .u64 a5,.int .u64 a6,.string a7,.string a8,.int .i64 a9,.int .i64 a10,.slice a11p a11n a11c,.slice a12p a12n a12c,.slice a13p a13n a13c],.int .i64 deep] (.bool ((!(decide ((0:Int)<(a12n:Int))||decide ((0:Int)<(a13n:Int))))&&(s1&&(((a1.toList==[])||s2)&&s3)))):=by
 open Z renaming ah0→Jb in exact IG
theorem cQ(a1 a2 a3 a4 a5 a6 a7 a8 a9 a10 a11p a11n a11c a12p a12n a12c a13p a13n a13c)(deep:Int)(r:Int)(s0 s1 s2 s3 w)(hk:wrap64 (deep+1)=r)(h0:Kp Zx w 203 #[.agg #[.int .u8 a3,.int .i64 a4,.int .u64 a5,.int .u64 a6,.string a7,.string a8,.int .i64 a9,.int .i64 a10,.slice a11p a11n a11c],.agg #[.int .u8 0,.int .i64 0,.int .u64 0,.int .u64 0,.string ⟨#[]⟩,.string ⟨#[]⟩,.int .i64 0,.int .i64 0,.slice none 0 0]] (.bool s0))(h1:Kp Zx w 174 #[.agg #[.int .u8 a3,.int .i64 a4,.int .u64 a5,.int .u64 a6,.string a7,.string a8,.int .i64 a9,.int .i64 a10,.slice a11p a11n a11c]] (.bool s1))(h2:Kp Zx w 107 #[.slice a12p a12n a12c,.int .i64 r] (.bool s2))(h3:Kp Zx w 107 #[.slice a13p a13n a13c,.int .i64 r] (.bool s3)) :
  Kp Zx w 173 #[.agg #[.int .u8 2,.string a1,.string a2,.int .u8 a3,.int .i64 a4,.int .u64 a5,.int .u64 a6,.string a7,.string a8,.int .i64 a9,.int .i64 a10,.slice a11p a11n a11c,.slice a12p a12n a12c,.slice a13p a13n a13c],.int .i64 deep] (.bool ((a2.toList==[])&&((a1.toList==[])&&(s1&&(s2&&s3))))):=by
 open Z renaming ah1→Jb in exact IG
theorem cV(a1 a2 a3 a4 a5 a6 a7 a8 a9 a10 a11p a11n a11c a12p a12n a12c a13p a13n a13c deep s0 s1 w)(h0:Kp Zx w 203 #[.agg #[.int .u8 a3,.int .i64 a4,.int .u64 a5,.int .u64 a6,.string a7,.string a8,.int .i64 a9,.int .i64 a10,.slice a11p a11n a11c],.agg #[.int .u8 0,.int .i64 0,.int .u64 0,.int .u64 0,.string ⟨#[]⟩,.string ⟨#[]⟩,.int .i64 0,.int .i64 0,.slice none 0 0]] (.bool s0))(h1:Kp Zx w 174 #[.agg #[.int .u8 a3,.int .i64 a4,.int .u64 a5,.int .u64 a6,.string a7,.string a8,.int .i64 a9,.int .i64 a10,.slice a11p a11n a11c]] (.bool s1)) :
  Kp Zx w 173 #[.agg #[.int .u8 5,.string a1,.string a2,.int .u8 a3,.int .i64 a4,.int .u64 a5,.int .u64 a6,.string a7,.string a8,.int .i64 a9,.int .i64 a10,.slice a11p a11n a11c,.slice a12p a12n a12c,.slice a13p a13n a13c],.int .i64 deep] (.bool ((!(decide ((0:Int)<(a12n:Int))||decide ((0:Int)<(a13n:Int))))&&((a1.toList==[])&&((a2.toList==[])&&s1)))):=by
 open Z renaming aeb→Sk in exact Sp
theorem cR(a1 a2 a3 a4 a5 a6 a7 a8 a9 a10 a11p a11n a11c a12p a12n a12c a13p a13n a13c deep s0 s1 w)(h0:Kp Zx w 203 #[.agg #[.int .u8 a3,.int .i64 a4,.int .u64 a5,.int .u64 a6,.string a7,.string a8,.int .i64 a9,.int .i64 a10,.slice a11p a11n a11c],.agg #[.int .u8 0,.int .i64 0,.int .u64 0,.int .u64 0,.string ⟨#[]⟩,.string ⟨#[]⟩,.int .i64 0,.int .i64 0,.slice none 0 0]] (.bool s0))(h1:Kp Zx w 104 #[.string a2] (.bool s1)) :
  Kp Zx w 173 #[.agg #[.int .u8 3,.string a1,.string a2,.int .u8 a3,.int .i64 a4,.int .u64 a5,.int .u64 a6,.string a7,.string a8,.int .i64 a9,.int .i64 a10,.slice a11p a11n a11c,.slice a12p a12n a12c,.slice a13p a13n a13c],.int .i64 deep] (.bool ((!(decide ((0:Int)<(a12n:Int))||decide ((0:Int)<(a13n:Int))))&&((!((a3 !=0)||(decide ((0:Int)<(a11n:Int))||!s0)))&&((a1.toList==[])&&s1)))):=by
 open Z renaming aec→Sk in exact Sp
theorem cW(a1 a2 a3 a4 a5 a6 a7 a8 a9 a10 a11p a11n a11c a12p a12n a12c a13p a13n a13c deep s0 s1 w)(h0:Kp Zx w 203 #[.agg #[.int .u8 a3,.int .i64 a4,.int .u64 a5,.int .u64 a6,.string a7,.string a8,.int .i64 a9,.int .i64 a10,.slice a11p a11n a11c],.agg #[.int .u8 0,.int .i64 0,.int .u64 0,.int .u64 0,.string ⟨#[]⟩,.string ⟨#[]⟩,.int .i64 0,.int .i64 0,.slice none 0 0]] (.bool s0))(h1:Kp Zx w 104 #[.string a1] (.bool s1)) :
  Kp Zx w 173 #[.agg #[.int .u8 6,.string a1,.string a2,.int .u8 a3,.int .i64 a4,.int .u64 a5,.int .u64 a6,.string a7,.string a8,.int .i64 a9,.int .i64 a10,.slice a11p a11n a11c,.slice a12p a12n a12c,.slice a13p a13n a13c],.int .i64 deep] (.bool ((!(decide ((0:Int)<(a12n:Int))||decide ((0:Int)<(a13n:Int))))&&((!((a3 !=0)||(decide ((0:Int)<(a11n:Int))||!s0)))&&((a2.toList==[])&&s1)))):=by
 exact qD
theorem cX(a1 a2 a3 a4 a5 a6 a7 a8 a9 a10 a11p a11n a11c a12p a12n a12c a13p a13n a13c deep s0 s1 w)(h0:Kp Zx w 203 #[.agg #[.int .u8 a3,.int .i64 a4,.int .u64 a5,.int .u64 a6,.string a7,.string a8,.int .i64 a9,.int .i64 a10,.slice a11p a11n a11c],.agg #[.int .u8 0,.int .i64 0,.int .u64 0,.int .u64 0,.string ⟨#[]⟩,.string ⟨#[]⟩,.int .i64 0,.int .i64 0,.slice none 0 0]] (.bool s0))(h1:Kp Zx w 104 #[.string a1] (.bool s1)) :
  Kp Zx w 173 #[.agg #[.int .u8 7,.string a1,.string a2,.int .u8 a3,.int .i64 a4,.int .u64 a5,.int .u64 a6,.string a7,.string a8,.int .i64 a9,.int .i64 a10,.slice a11p a11n a11c,.slice a12p a12n a12c,.slice a13p a13n a13c],.int .i64 deep] (.bool ((!(decide ((0:Int)<(a12n:Int))||decide ((0:Int)<(a13n:Int))))&&((!((a3 !=0)||(decide ((0:Int)<(a11n:Int))||!s0)))&&((a2.toList==[])&&s1)))):=by
 exact qD
def Ex.dm(m:Nat):List Ex→Nat
 | []=>m
 | e :: l=>Ex.dm (max m e.dp) l
theorem Ex.dps_dm:∀(l:List Ex) (m:Nat),Ex.dps (m+1) l=Ex.dm m l+1
 | [],m=>by rw[Ex.dps,Ex.dm]
 | e :: l,m=>by
  rw[Ex.dps,Ex.dm];have:(if m+1<1+e.dp then 1+e.dp else m+1)=max m e.dp+1:=by split <;> omega
  rw[this,Ex.dps_dm l]
theorem Ex.dp_dm(e:Ex):e.dp=Ex.dm 0 e.args+1:=by rw[Ex.dp_eq,show (1:Nat)=0+1 from rfl,Ex.dps_dm]
end Go.Proofs.YtknmeggfokpbjaaGreat

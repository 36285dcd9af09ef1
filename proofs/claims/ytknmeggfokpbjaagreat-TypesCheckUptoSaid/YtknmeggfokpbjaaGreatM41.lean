/-
  WHAT IS PROVED HERE: a part of the proof (made narrower and merged by program; the parts: JE Ia Jf JG Jj).
-/
import Derived.Test.YtknmeggfokpbjaaGreatM40
import Derived.Test.YtknmeggfokpbjaaGreatM3
import Derived.Test.YtknmeggfokpbjaaGreatM10
import Derived.Test.YtknmeggfokpbjaaGreatM33
set_option maxRecDepth 100000
set_option maxHeartbeats 8000000
set_option linter.all false
namespace Go.Proofs.YtknmeggfokpbjaaGreat
open Z
open Go.RowKit Go.Proofs.Tryz
open Bool renaming and_eq_true→Zc
open Ending renaming returned→Zd
open Lib renaming hid→Zf
open List renaming length_cons→Zk,mem_of_getElem?→Zo
open Nat renaming le_refl→Zt,zero_le→Zw
open Go.Proofs.Tryz renaming prog→Zx
open Value renaming bool→Zy,int→Zz
open Go.RowKit
mutual
/-- May it,and all in it,be,but for its depth? -/
def Ex.ok:Ex→Bool
 | .mk op lit hd nm h l p c args=>Ex.one (.mk op lit hd nm h l p c args)&&((!TY op||QL args)&&Ex.oks args)
def Ex.oks:List Ex→Bool
 | []=>true
 | e :: l=>e.ok&&Ex.oks l
end
theorem Ex.oks_all:∀l:List Ex,Ex.oks l=l.all Ex.ok
 | []=>by rw[Ex.oks];rfl
 | e :: l=>by rw[Ex.oks,Ex.oks_all l,List.all_cons]
theorem Ex.ok_eq(e:Ex):e.ok=(e.one&&((!TY e.op||QL e.args)&&e.args.all Ex.ok)):=by cases e;rw[Ex.ok,Ex.oks_all];rfl
theorem oM(op lw lh ll hd nm eh el p n cap w)(h0:Kp Zx w 220 #[.agg #[.int .u8 op,.int .i64 lw,.int .u64 lh,.int .u64 ll,.string hd,.string nm,.int .i64 eh,.int .i64 el,.slice p n cap]] (.bool false)) :
  Kp Zx w 205 #[.agg #[.int .u8 op,.int .i64 lw,.int .u64 lh,.int .u64 ll,.string hd,.string nm,.int .i64 eh,.int .i64 el,.slice p n cap]] (.bool false):=by
 open Z renaming ai3→SK in exact SX
theorem oO(op lw lh ll hd nm eh el p n cap w)(h0:Kp Zx w 220 #[.agg #[.int .u8 op,.int .i64 lw,.int .u64 lh,.int .u64 ll,.string hd,.string nm,.int .i64 eh,.int .i64 el,.slice p n cap]] (.bool true))(args:List Ex)(hn:args.length=n)(hl:n≤1048576)(Yj:Xa w 9 Ex.cells p args)(ih:∀x∈args,Kp Zx w 205 #[.agg x.cells.toArray] (.bool x.ok))(h14:(op==14)=false)(h15:(op==15)=false) :
  Kp Zx w 205 #[.agg #[.int .u8 op,.int .i64 lw,.int .u64 lh,.int .u64 ll,.string hd,.string nm,.int .i64 eh,.int .i64 el,.slice p n cap]] (.bool (args.all Ex.ok)):=by
 intro y0;have h0:=h0.up y0;have Yj:=Yj.plus y0;have ih:=fun x hx=>(ih x hx).up y0;obtain⟨V,hV⟩:=ZB (plus w y0);rw[hV]at h0 Yj ih ⊢;clear hV;open Z renaming ald→A8 in exact tF
theorem oJ(op lw lh ll hd nm eh el p n cap)(pa:Addr)(b0 b1 b2 b3 b4 b5 b6 b7 b8p b8n b8c k w)(h0:Kp Zx w 220 #[.agg #[.int .u8 op,.int .i64 lw,.int .u64 lh,.int .u64 ll,.string hd,.string nm,.int .i64 eh,.int .i64 el,.slice p n cap]] (.bool true))(W8:op=14)(hp:p=some pa)(hn:n=2)(hx:Yg w (pa.add 9) [.int .u8 b0,.int .i64 b1,.int .u64 b2,.int .u64 b3,.string b4,.string b5,.int .i64 b6,.int .i64 b7,.slice b8p b8n b8c])(h1:Kp Zx w 221 #[.agg #[.int .u64 b2,.int .u64 b3],.agg #[.int .u64 0,.int .u64 127]] (.int .i64 k))(hb:((b0==1)&&((b1==0)&&decide (k≤0)))=false) :
  Kp Zx w 205 #[.agg #[.int .u8 op,.int .i64 lw,.int .u64 lh,.int .u64 ll,.string hd,.string nm,.int .i64 eh,.int .i64 el,.slice p n cap]] (.bool false):=by
 intro y0;have h0:=h0.up y0;have hx:=hx.plus y0;have h1:=h1.up y0;obtain⟨V,hV⟩:=ZB (plus w y0);rw[hV]at h0 hx h1 ⊢;clear hV;subst hp hn;have s14:(op==14)=true:=atx;exact qG
theorem oK(op lw lh ll hd nm eh el p n cap)(pa:Addr)(b0 b1 b2 b3 b4 b5 b6 b7 b8p b8n b8c k w)(h0:Kp Zx w 220 #[.agg #[.int .u8 op,.int .i64 lw,.int .u64 lh,.int .u64 ll,.string hd,.string nm,.int .i64 eh,.int .i64 el,.slice p n cap]] (.bool true))(W8:op=15)(hp:p=some pa)(hn:n=2)(hx:Yg w (pa.add 9) [.int .u8 b0,.int .i64 b1,.int .u64 b2,.int .u64 b3,.string b4,.string b5,.int .i64 b6,.int .i64 b7,.slice b8p b8n b8c])(h1:Kp Zx w 221 #[.agg #[.int .u64 b2,.int .u64 b3],.agg #[.int .u64 0,.int .u64 127]] (.int .i64 k))(hb:((b0==1)&&((b1==0)&&decide (k≤0)))=false) :
  Kp Zx w 205 #[.agg #[.int .u8 op,.int .i64 lw,.int .u64 lh,.int .u64 ll,.string hd,.string nm,.int .i64 eh,.int .i64 el,.slice p n cap]] (.bool false):=by
 intro y0;have h0:=h0.up y0;have hx:=hx.plus y0;have h1:=h1.up y0;obtain⟨V,hV⟩:=ZB (plus w y0);rw[hV]at h0 hx h1 ⊢;clear hV;subst hp hn;have s14:(op==14)=false:=atx;have s15:(op==15)=true:=atx;exact qG
theorem oP(op lw lh ll hd nm eh el p n cap)(pa:Addr)(b0 b1 b2 b3 b4 b5 b6 b7 b8p b8n b8c kk w)(h0:Kp Zx w 220 #[.agg #[.int .u8 op,.int .i64 lw,.int .u64 lh,.int .u64 ll,.string hd,.string nm,.int .i64 eh,.int .i64 el,.slice p n cap]] (.bool true))(args:List Ex)(hn:args.length=n)(hl:n≤1048576)(Yj:Xa w 9 Ex.cells p args)(ih:∀x∈args,Kp Zx w 205 #[.agg x.cells.toArray] (.bool x.ok))(W8:op=14)(hp:p=some pa)(SF:n=2)(hx:Yg w (pa.add 9) [.int .u8 b0,.int .i64 b1,.int .u64 b2,.int .u64 b3,.string b4,.string b5,.int .i64 b6,.int .i64 b7,.slice b8p b8n b8c])(h1:Kp Zx w 221 #[.agg #[.int .u64 b2,.int .u64 b3],.agg #[.int .u64 0,.int .u64 127]] (.int .i64 kk))(c0:(b0 !=1)=false)(c1:(b1 !=0)=false)(c2:¬(0:Int)<kk) :
  Kp Zx w 205 #[.agg #[.int .u8 op,.int .i64 lw,.int .u64 lh,.int .u64 ll,.string hd,.string nm,.int .i64 eh,.int .i64 el,.slice p n cap]] (.bool (args.all Ex.ok)):=by
 open Z renaming aln→zb in exact tI
theorem oQ(op lw lh ll hd nm eh el p n cap)(pa:Addr)(b0 b1 b2 b3 b4 b5 b6 b7 b8p b8n b8c kk w)(h0:Kp Zx w 220 #[.agg #[.int .u8 op,.int .i64 lw,.int .u64 lh,.int .u64 ll,.string hd,.string nm,.int .i64 eh,.int .i64 el,.slice p n cap]] (.bool true))(args:List Ex)(hn:args.length=n)(hl:n≤1048576)(Yj:Xa w 9 Ex.cells p args)(ih:∀x∈args,Kp Zx w 205 #[.agg x.cells.toArray] (.bool x.ok))(W8:op=15)(hp:p=some pa)(SF:n=2)(hx:Yg w (pa.add 9) [.int .u8 b0,.int .i64 b1,.int .u64 b2,.int .u64 b3,.string b4,.string b5,.int .i64 b6,.int .i64 b7,.slice b8p b8n b8c])(h1:Kp Zx w 221 #[.agg #[.int .u64 b2,.int .u64 b3],.agg #[.int .u64 0,.int .u64 127]] (.int .i64 kk))(c0:(b0 !=1)=false)(c1:(b1 !=0)=false)(c2:¬(0:Int)<kk) :
  Kp Zx w 205 #[.agg #[.int .u8 op,.int .i64 lw,.int .u64 lh,.int .u64 ll,.string hd,.string nm,.int .i64 eh,.int .i64 el,.slice p n cap]] (.bool (args.all Ex.ok)):=by
 open Z renaming alp→zb in exact tI
section
variable {α:Type} {f:α→α→Bool}
end
theorem Ex.dp_pos(e:Ex):1≤e.dp:=by rw[Ex.dp_dm];omega
theorem oL(e:Ex):∀w:World,e.In w→e.wt≤1048576→Kp Zx w 205 #[.agg e.cells.toArray] (.bool e.ok):=by
 induction e using Ex.ind with
 | h e ih =>
  intro w h hz;have h1:=cD e w h;have Wk:=Ex.wt_eq e;have XQ:=XM Ex.wt Ex.wt_pos e.args;have hl9:e.args.length≤1048576:=asB;have h':=h;obtain⟨_,W8,lit,_,_,_,_,len,cap,row,kids⟩:=h';have ihk:∀x∈e.args,Kp Zx w 205 #[.agg x.cells.toArray] (.bool x.ok):=fun x hx=>ih x hx w (kids x hx) (by have:=YW Ex.wt e.args x hx;omega);cases ho:e.one with
  | false =>
   rw[ho]at h1;exact (oM e.op e.lit.w e.lit.h e.lit.l e.head e.name e.hi e.lo e.p e.args.length e.cap w h1).eqv (by rw[Ex.ok_eq,ho,Bool.false_and])
  | true =>
   rw[ho]at h1;have Pd:(e.args.length:Int)=WD e.op:=by
    unfold Ex.one at ho;simp only[Zc,beq_iff_eq]at ho;exact ho.2.2.2.2.2
   by_cases hs:e.op=14∨e.op=15
   ·have h2:WD e.op=2:=by
     unfold WD;rw[if_neg asB,if_pos asB]
    have hS:TY e.op=true:=by
     unfold TY;rw[Bool.or_eq_true,beq_iff_eq,beq_iff_eq];exact hs
    have hn:e.args.length=2:=asB;obtain⟨a,b,hab⟩:∃a b,e.args=[a,b]:=by
     match e.args,hn with
     | [a,b],_=>exact⟨a,b,rfl⟩
    obtain⟨pa,hp,hc⟩:=row 1 b (by rw[hab];rfl);have hb:b.In w:=kids b (by rw[hab];simp);obtain⟨_,_,blit,_⟩:=hb;have YQ:Kp Zx w 221 #[.agg #[.int .u64 b.lit.h,.int .u64 b.lit.l],.agg #[.int .u64 0,.int .u64 127]] (.int .i64 (Tc b.lit.n 127)) :=
     Kp.all (by rw[Lt.nv_eq blit];exact dG b.lit.n 127 (Lt.n_lt blit) (by decide))
    have Wh:QL e.args=MT b:=by rw[hab];rfl
    cases hb2:MT b with
    | false =>
     have hb3:((b.op==1)&&((b.lit.w==0)&&decide (Tc b.lit.n 127≤0)))=false:=hb2;rcases hs with hs|hs
     ·exact (oJ e.op e.lit.w e.lit.h e.lit.l e.head e.name e.hi e.lo e.p e.args.length e.cap pa b.op b.lit.w b.lit.h b.lit.l b.head b.name b.hi b.lo b.p b.args.length b.cap _ w h1 hs hp hn hc YQ hb3).eqv (by
       rw[Ex.ok_eq,ho,hS,Wh,hb2];rfl)
     ·exact (oK e.op e.lit.w e.lit.h e.lit.l e.head e.name e.hi e.lo e.p e.args.length e.cap pa b.op b.lit.w b.lit.h b.lit.l b.head b.name b.hi b.lo b.p b.args.length b.cap _ w h1 hs hp hn hc YQ hb3).eqv (by
       rw[Ex.ok_eq,ho,hS,Wh,hb2];rfl)
    | true =>
     have hb3:((b.op==1)&&((b.lit.w==0)&&decide (Tc b.lit.n 127≤0)))=true:=hb2;simp only[Zc,beq_iff_eq,decide_eq_true_eq]at hb3;obtain⟨e0,e1,e2⟩:=hb3;have f2:¬(0:Int)<Tc b.lit.n 127:=Int.not_lt.mpr e2;have f0:(b.op !=1)=false:=by rw[e0];rfl
     have f1:(b.lit.w !=0)=false:=by rw[e1];rfl
     rcases hs with hs|hs
     ·exact (oP e.op e.lit.w e.lit.h e.lit.l e.head e.name e.hi e.lo e.p e.args.length e.cap pa b.op b.lit.w b.lit.h b.lit.l b.head b.name b.hi b.lo b.p b.args.length b.cap _ w h1 e.args rfl hl9 row ihk hs hp hn hc YQ f0 f1 f2).eqv (by
       rw[Ex.ok_eq,ho,hS,Wh,hb2];rfl)
     ·exact (oQ e.op e.lit.w e.lit.h e.lit.l e.head e.name e.hi e.lo e.p e.args.length e.cap pa b.op b.lit.w b.lit.h b.lit.l b.head b.name b.hi b.lo b.p b.args.length b.cap _ w h1 e.args rfl hl9 row ihk hs hp hn hc YQ f0 f1 f2).eqv (by
       rw[Ex.ok_eq,ho,hS,Wh,hb2];rfl)
   ·have hS:TY e.op=false:=by
     unfold TY;rw[Bool.or_eq_false_iff,beq_eq_false_iff_ne,beq_eq_false_iff_ne];omega
    exact (oO e.op e.lit.w e.lit.h e.lit.l e.head e.name e.hi e.lo e.p e.args.length e.cap w h1 e.args rfl hl9 row ihk (by rw[beq_eq_false_iff_ne];omega) (by rw[beq_eq_false_iff_ne];omega)).eqv (by
     rw[Ex.ok_eq,ho,hS];rfl)
theorem cA(a0 a1 a2 a3 a4 a5 a6 a7 a8p a8n a8c d s1 w)(h0:Kp Zx w 204 #[.agg #[.int .u8 a0,.int .i64 a1,.int .u64 a2,.int .u64 a3,.string a4,.string a5,.int .i64 a6,.int .i64 a7,.slice a8p a8n a8c]] (.int .i64 d))(h1:Kp Zx w 205 #[.agg #[.int .u8 a0,.int .i64 a1,.int .u64 a2,.int .u64 a3,.string a4,.string a5,.int .i64 a6,.int .i64 a7,.slice a8p a8n a8c]] (.bool s1)) :
  Kp Zx w 174 #[.agg #[.int .u8 a0,.int .i64 a1,.int .u64 a2,.int .u64 a3,.string a4,.string a5,.int .i64 a6,.int .i64 a7,.slice a8p a8n a8c]] (.bool (decide (d≤16)&&s1)):=by
 open Z renaming aed→Sk in exact Sp
theorem Ex.dps_iff:∀(l:List Ex) (m k:Nat),Ex.dps m l≤k↔m≤k∧∀x∈l,1+x.dp≤k
 | [],m,k=>by simp[Ex.dps]
 | e :: l,m,k=>by
  rw[Ex.dps,Ex.dps_iff l];constructor
  ·intro ⟨h1,h2⟩
   by_cases hc:m<1+e.dp
   ·rw[if_pos hc]at h1
    exact⟨asB,fun x hx=>by
     rcases List.mem_cons.1 hx with rfl|hx
     ·exact h1
     ·exact h2 x hx⟩
   ·rw[if_neg hc]at h1
    exact⟨h1,fun x hx=>by
     rcases List.mem_cons.1 hx with rfl|hx
     ·omega
     ·exact h2 x hx⟩
  ·intro ⟨h1,h2⟩
   have h3:=h2 e asD;refine⟨?_,fun x hx=>h2 x (by simp[hx])⟩;by_cases hc:m<1+e.dp
   ·rw[if_pos hc];exact h3
   ·rw[if_neg hc];exact h1
theorem Cm{α:Type}(f g h:α→Bool):∀(l:List α),(∀x∈l,f x=(g x&&h x))→l.all f=(l.all g&&l.all h)
 | [],_=>rfl
 | x :: l,H=>by
  rw[List.all_cons,List.all_cons,List.all_cons,H x asD,Cm f g h l (fun y hy=>H y (by simp[hy]))];cases g x <;> cases h x <;> cases l.all g <;> cases l.all h <;> rfl
theorem Ex.may_ok:∀(n:Nat) (e:Ex),Ex.may n e=(decide (e.dp≤n)&&e.ok)
 | 0,e=>by
  have:=Ex.dp_pos e;rw[decide_eq_false asB,Bool.false_and];cases e;rfl
 | n+1,e=>by
  have hd:decide (e.dp≤n+1)=e.args.all fun x=>decide (x.dp≤n):=by
   rw[Bool.eq_iff_iff,decide_eq_true_eq,List.all_eq_true,Ex.dp_eq,Ex.dps_iff];constructor
   ·intro ⟨_,h⟩ x hx
    have:=h x hx;rw[decide_eq_true_eq];omega
   ·intro h
    refine⟨asB,fun x hx=>?_⟩;have:=h x hx;rw[decide_eq_true_eq]at this;omega
  rw[hd,Ex.may,Ex.ok_eq];unfold Ex.fits Xe Ex.one;rw[Cm (Ex.may n) (fun x=>decide (x.dp≤n)) Ex.ok e.args (fun x _=>Ex.may_ok n x)];have hl:(decide (WD e.op≤(e.args.length:Int))&&decide ((e.args.length:Int)≤WD e.op))=((e.args.length:Int)==WD e.op):=by
   rw[Bool.eq_iff_iff,Zc,decide_eq_true_eq,decide_eq_true_eq,beq_iff_eq];omega
  rw[hl];cases VT e.op <;> cases SO (VU e.op) e.lit <;> cases Uh e.head (V3 e.op) <;> cases Uh e.name (V4 e.op) <;> cases Sw e.hi e.lo (Vs e.op) <;> cases ((e.args.length:Int)==WD e.op) <;> cases (!TY e.op||QL e.args) <;> simp
theorem F3(e:Ex)(w:World)(h:e.In w)(hz:e.wt≤1048576):Kp Zx w 174 #[.agg e.cells.toArray] (.bool (Ex.may 16 e)) :=
 (cA e.op e.lit.w e.lit.h e.lit.l e.head e.name e.hi e.lo e.p e.args.length e.cap (e.dp:Int) e.ok w (Kp.of fun _ ⟨y,hy⟩=>dI e _ (hy▸h.plus y) hz) (oL e w h hz)).eqv (by
  rw[Ex.may_ok];congr 2
  rw[decide_eq_decide];omega)
theorem cq(L:Sl Ex)(w:World)(h:L.In w 9 Ex.cells (Ex.In w))(hz:L.size Ex.wt≤1048576):Kp Zx w 171 #[L.v] (.bool (L.l.all (Ex.may 16))) :=
 cf (Ex.may 16) (Ex.In w) w L h (Xk Ex.wt Ex.wt_pos _ hz) (fun x hx=>F3 x w (h.kids x hx) (Nat.le_trans (YW Ex.wt L.l x hx) (by unfold Sl.size at hz;omega)))
theorem cH(a1 a2 a3 a4 a5 a6 w) :
  Kp Zx w 172 #[.agg #[.int .u8 1,.int .i64 a1,.int .u64 a2,.int .u64 a3,.int .i64 a4,.int .u64 a5,.int .u64 a6]] (.bool (((a1==0)&&((a2==0)&&(a3==0)))&&((a4==0)&&((a5==0)&&(a6==0))))):=by
 intro y0;obtain⟨V,hV⟩:=ZB (plus w y0);rw[hV]at ⊢;clear hV;obtain⟨R,hR⟩:=ZB (((a1==0)&&((a2==0)&&(a3==0)))&&((a4==0)&&((a5==0)&&(a6==0))));rw[hR];by_cases q1:(a1==0)=true
 case neg =>
  have q1:(a1==0)=false:=asJ;open Z renaming PN→WV in exact WX
 case pos =>
  by_cases q2:(a2==0)=true
  case neg =>
   have q2:(a2==0)=false:=asL;open Z renaming PN→Vg in exact Vk
  case pos =>
   by_cases q3:(a3==0)=true
   case neg =>
    have q3:(a3==0)=false:=asP;open Z renaming PN→SI in exact SV
   case pos =>
    by_cases q4:(a4==0)=true
    case neg =>
     have q4:(a4==0)=false:=atf;open Z renaming PN→NQ in exact Mv
    case pos =>
     by_cases q5:(a5==0)=true
     case neg =>
      have q5:(a5==0)=false:=atn;open Z renaming PN→Lm in exact L7
     case pos =>
      by_cases q6:(a6==0)=true
      case neg =>
       have q6:(a6==0)=false:=by simpa using q6
       have hF:=Zf (show (false)=R by first|exact hR|(rw[←hR];simp[q1,q2,q3,q4,q5,q6]));exact PN
      case pos =>
       have hF:=Zf (show (true)=R by first|exact hR|(rw[←hR];simp[q1,q2,q3,q4,q5,q6]));exact PN
theorem cJ(a1 a2 a3 a4 a5 a6 s0 w)(h0:Kp Zx w 175 #[.agg #[.int .i64 a1,.int .u64 a2,.int .u64 a3]] (.bool s0)) :
  Kp Zx w 172 #[.agg #[.int .u8 2,.int .i64 a1,.int .u64 a2,.int .u64 a3,.int .i64 a4,.int .u64 a5,.int .u64 a6]] (.bool (s0&&((a4==0)&&((a5==0)&&(a6==0))))):=by
 open Z renaming ai4→SK in exact SX
theorem cK(a1 a2 a3 a4 a5 a6 s0 s1 w)(h0:Kp Zx w 175 #[.agg #[.int .i64 a1,.int .u64 a2,.int .u64 a3]] (.bool s0))(h1:Kp Zx w 175 #[.agg #[.int .i64 a4,.int .u64 a5,.int .u64 a6]] (.bool s1)) :
  Kp Zx w 172 #[.agg #[.int .u8 3,.int .i64 a1,.int .u64 a2,.int .u64 a3,.int .i64 a4,.int .u64 a5,.int .u64 a6]] (.bool (s0&&s1)):=by
 open Z renaming aee→Sk in exact Sp
theorem cG(a0:Int)(a1 a2 a3 a4 a5 a6 w)(hk:¬(1≤a0∧a0≤3)) :
  Kp Zx w 172 #[.agg #[.int .u8 a0,.int .i64 a1,.int .u64 a2,.int .u64 a3,.int .i64 a4,.int .u64 a5,.int .u64 a6]] (.bool (false)):=by
 intro y0;obtain⟨V,hV⟩:=ZB (plus w y0);rw[hV]at ⊢;clear hV;have n1:(a0==1)=false:=asM;have n2:(a0==2)=false:=asM;have n3:(a0==3)=false:=asM;obtain⟨R,hR⟩:=ZB (false);rw[hR];open Z renaming PN→Xy in exact Xz
theorem yT(s:Se)(w:World)(h:s.In w):Kp Zx w 172 #[.agg s.cells.toArray] (.bool (Vi s)):=by
 have kv:=JY s.v w h.v;have km:=JY s.m w h.m;obtain⟨k,⟨vw,vh,vl⟩,⟨mw,mh,ml⟩⟩:=s;unfold Vi;simp only;by_cases c1:k=1
 ·subst c1
  exact (cH vw vh vl mw mh ml w).eqv (by rw[show Q2 1=true from rfl,show sV 1=false from rfl,show sM 1=false from rfl];rfl)
 by_cases c2:k=2
 ·subst c2
  exact (cJ vw vh vl mw mh ml _ w kv).eqv (by rw[show Q2 2=true from rfl,show sV 2=true from rfl,show sM 2=false from rfl];rfl)
 by_cases c3:k=3
 ·subst c3
  exact (cK vw vh vl mw mh ml _ _ w kv km).eqv (by rw[show Q2 3=true from rfl,show sV 3=true from rfl,show sM 3=true from rfl];rfl)
 exact (cG k vw vh vl mw mh ml w asB).eqv (by rw[show Q2 k=false by unfold Q2;exact decide_eq_false (by omega)];rfl)
theorem dC(deep:Int)(may:St→Bool)(K:St→Prop)(w:World)(A:Sl St)(hA:A.In w 14 St.cells K)(hl:A.l.length≤32)(hp:0<A.l.length)(hd:deep≤8)(hf:∀x∈A.l,Kp Zx w 173 #[.agg x.cells.toArray,.int .i64 deep] (.bool (may x))) :
  Kp Zx w 107 #[A.v,.int .i64 deep] (.bool (A.l.all may)):=by
 intro y0;obtain⟨p,cap,l⟩:=A;simp only[Sl.v]at hl hp hf ⊢;open Z renaming alY→G4 in exact DB
theorem dE(p)(n cap:Nat)(deep w)(g1:(32:Int)<(n:Int)) :
  Kp Zx w 107 #[.slice p n cap,.int .i64 deep] (.bool (false)):=by
 exact qP
theorem dD(p)(n cap:Nat)(deep:Int)(w)(g1:¬(32:Int)<(n:Int))(g2:(0:Int)<(n:Int))(g3:(8:Int)<deep) :
  Kp Zx w 107 #[.slice p n cap,.int .i64 deep] (.bool (false)):=by
 exact qP
theorem dF(p cap deep w):Kp Zx w 107 #[.slice p 0 cap,.int .i64 deep] (.bool true):=by
 intro y0;obtain⟨V,hV⟩:=ZB (plus w y0);rw[hV];clear hV;go_enter func107,ntmps107;go_wp2;go_loopw [5] (fun iv wr=>iv=.int .i64 0∧∃y,wr=plus V y) (fun _ _=>0)
 case atStart=>exact⟨rfl,⟨#[],V.drawn⟩,(Yk V).symm⟩
 case round =>
  obtain⟨rfl,y,rfl⟩:=hrel;go_wp2;go_ret;exact⟨rfl,y,rfl⟩
theorem yM(deep:Int)(may:St→Bool)(K:St→Prop)(w:World)(A:Sl St)(hA:A.In w 14 St.cells K)(hf:deep≤8→∀x∈A.l,Kp Zx w 173 #[.agg x.cells.toArray,.int .i64 deep] (.bool (may x))) :
  Kp Zx w 107 #[A.v,.int .i64 deep] (.bool (decide (A.l.length≤32)&&(decide (A.l.length=0)||(decide (deep≤8)&&A.l.all may)))):=by
 by_cases h1:A.l.length≤32
 ·rw[decide_eq_true h1,Bool.true_and]
  by_cases h2:A.l.length=0
  ·rw[decide_eq_true h2,Bool.true_or]
   have:=dF A.p A.cap deep w;rw[←h2]at this;exact this
  ·rw[decide_eq_false h2,Bool.false_or]
   by_cases h3:deep≤8
   ·rw[decide_eq_true h3,Bool.true_and]
    exact dC deep may K w A hA h1 asB h3 (hf h3)
   ·rw[decide_eq_false h3,Bool.false_and]
    exact dD A.p A.l.length A.cap deep w asB asB asB
 ·rw[decide_eq_false h1,Bool.false_and]
  exact dE A.p A.l.length A.cap deep w asB
theorem iU{s:ByteArray}(h:(s.toList==[])=true):YK s=false:=by
 have h1:s.toList=[]:=asN;rw[ByteArray.toList_eq]at h1;have h2:s.size=0:=by rw[←CS,h1];rfl
 unfold YK;rw[decide_eq_false asB];rfl
theorem JG(s:ByteArray):Uh s 1=YK s:=by
 rw[Ma];cases h:(s.toList==[]) with
 | true=>rw[iU h];rfl
 | false=>rfl
theorem WW(s:ByteArray):Uh s 2=((s.toList==[])||YK s):=auj
theorem St.mayB_nil(n:Nat):St.mayB n []=true:=by cases n <;> simp[St.mayB,Xe]
theorem mP(e:Ex):(!((e.op !=0)||(decide ((0:Int)<(e.args.length:Int))||!e.same Vl)))=e.same Vl:=by
 cases h:e.same Vl with
 | false=>simp
 | true =>
  rw[Ex.same_eq,Zc]at h;obtain⟨h1,h2⟩:=h;have h3:e.args=[]:=by
   cases h4:e.args with
   | nil=>rfl
   | cons a l=>rw[h4]at h2;simp[Vl,Ex.args,Ex.sames]at h2
  have h5:e.op=0:=by
   unfold Ex.top at h1;simp only[Zc,beq_iff_eq]at h1;exact h1.1.1.1.1.1
  rw[h3,h5];rfl
theorem St.one_eq(s:St):s.one=(ST s.kind&&((Uh s.head (Rr s.kind)&&(Uh s.name (Rs s.kind)&&(Rq s.kind||(((s.thn.length:Int)==0)&&((s.els.length:Int)==0)))))&&cond (TX s.kind) (Ex.may 16 s.e) (s.e.same Vl))):=by
 unfold St.one St.fits;cases TX s.kind <;> rfl
theorem Ly(n:Nat)(l r:List St)(x y:Bool):(!(decide ((0:Int)<(l.length:Int))||decide ((0:Int)<(r.length:Int)))&&(x&&y))=((x&&((y&&(((l.length:Int)==0)&&((r.length:Int)==0)))&&true))&&(St.mayB n l&&St.mayB n r)):=by
 cases l with
 | cons a l =>
  have h1:decide ((0:Int)<((a :: l).length:Int))=true:=decide_eq_true (by simp only[Zk];omega);have h2:(((a :: l).length:Int)==0)=false:=by simp only[Zk,beq_eq_false_iff_ne];omega
  rw[h1,h2];cases x <;> cases y <;> rfl
 | nil =>
  cases r with
  | cons a l =>
   have h1:decide ((0:Int)<((a :: l).length:Int))=true:=decide_eq_true (by simp only[Zk];omega);have h2:(((a :: l).length:Int)==0)=false:=by simp only[Zk,beq_eq_false_iff_ne];omega
   rw[h1,h2];cases x <;> cases y <;> rfl
  | nil =>
   rw[St.mayB_nil];cases x <;> cases y <;> rfl
theorem cY(s:St)(n:Nat)(deep:Int)(r:Int)(w:World)(h:s.In w)(hz:s.sz≤1048576)(hr:wrap64 (deep+1)=r)(ht:Kp Zx w 107 #[s.thnS.v,.int .i64 r] (.bool (St.mayB n s.thn)))(he:Kp Zx w 107 #[s.elsS.v,.int .i64 r] (.bool (St.mayB n s.els))) :
  Kp Zx w 173 #[.agg s.cells.toArray,.int .i64 deep] (.bool (s.one&&(St.mayB n s.thn&&St.mayB n s.els))):=by
 have e1:=St.sz_eq s;have hE:=h.inE;have kh:=SS s.head w;have kn:=SS s.name w;have km:=F3 s.e w hE asB;have ks:Kp Zx w 203 #[s.e.val,Vl.val] (.bool (s.e.same Vl)):=Kp.ofPure fun y=>bD s.e Vl _ (hE.plus y) (Cg _) asB asE;obtain⟨k,hd,nm,e,sp,scap,thn,sq,scbp,els⟩:=s;obtain⟨op,⟨lw,lh,ll⟩,eh,en,ei,el,ep,ecap,args⟩:=e;have hN:(!((op !=0)||(decide ((0:Int)<(args.length:Int))||!Ex.same (.mk op ⟨lw,lh,ll⟩ eh en ei el ep ecap args) Vl)))=Ex.same (.mk op ⟨lw,lh,ll⟩ eh en ei el ep ecap args) Vl:=mP (.mk op ⟨lw,lh,ll⟩ eh en ei el ep ecap args);rw[St.one_eq];simp only[St.kind,St.head,St.name,St.e,St.thn,St.els]at kh kn km ks ht he ⊢;by_cases c1:k=1
 ·subst c1
  refine (cP hd nm op lw lh ll eh en ei el ep args.length ecap sp thn.length scap sq els.length scbp deep _ _ _ _ w ks kn kh km).eqv ?_;rw[show ST 1=true from rfl,show Rr 1=2 from rfl,show Rs 1=1 from rfl,show Rq 1=false from rfl,show TX 1=true from rfl,cond_true,WW,JG];have:=Ly n thn els (YK nm&&((hd.toList==[])||YK hd)) (Ex.may 16 (.mk op ⟨lw,lh,ll⟩ eh en ei el ep ecap args));open Z renaming acQ→Lb in exact LR
 by_cases c2:k=2
 ·subst c2
  refine (cQ hd nm op lw lh ll eh en ei el ep args.length ecap sp thn.length scap sq els.length scbp deep r _ _ _ _ w hr ks km ht he).eqv ?_;rw[show ST 2=true from rfl,show Rr 2=0 from rfl,show Rs 2=0 from rfl,show Rq 2=true from rfl,show TX 2=true from rfl,cond_true,Vh,Vh];generalize St.mayB n thn=L;generalize St.mayB n els=M;generalize Ex.may 16 _=x;generalize (nm.toList==[])=y;generalize (hd.toList==[])=z;cases L <;> cases M <;> cases x <;> cases y <;> cases z <;> simp
 by_cases c3:k=3
 ·subst c3
  refine (cR hd nm op lw lh ll eh en ei el ep args.length ecap sp thn.length scap sq els.length scbp deep _ _ w ks kn).eqv ?_;rw[show ST 3=true from rfl,show Rr 3=0 from rfl,show Rs 3=1 from rfl,show Rq 3=false from rfl,show TX 3=false from rfl,cond_false,Vh,JG];rw[hN];have:=Ly n thn els (YK nm&&(hd.toList==[])) (Ex.same (.mk op ⟨lw,lh,ll⟩ eh en ei el ep ecap args) Vl);open Z renaming acR→Lb in exact LR
 by_cases c4:k=4
 ·subst c4
  refine (cT hd nm op lw lh ll eh en ei el ep args.length ecap sp thn.length scap sq els.length scbp deep _ w ks).eqv ?_;rw[show ST 4=true from rfl,show Rr 4=0 from rfl,show Rs 4=0 from rfl,show Rq 4=false from rfl,show TX 4=false from rfl,cond_false,Vh,Vh];rw[hN];have:=Ly n thn els ((nm.toList==[])&&(hd.toList==[])) (Ex.same (.mk op ⟨lw,lh,ll⟩ eh en ei el ep ecap args) Vl);open Z renaming acS→Lb in exact LR
 by_cases c5:k=5
 ·subst c5
  refine (cV hd nm op lw lh ll eh en ei el ep args.length ecap sp thn.length scap sq els.length scbp deep _ _ w ks km).eqv ?_;rw[show ST 5=true from rfl,show Rr 5=0 from rfl,show Rs 5=0 from rfl,show Rq 5=false from rfl,show TX 5=true from rfl,cond_true,Vh,Vh];have:=Ly n thn els ((nm.toList==[])&&(hd.toList==[])) (Ex.may 16 (.mk op ⟨lw,lh,ll⟩ eh en ei el ep ecap args));open Z renaming acT→Lb in exact LR
 by_cases c6:k=6
 ·subst c6
  refine (cW hd nm op lw lh ll eh en ei el ep args.length ecap sp thn.length scap sq els.length scbp deep _ _ w ks kh).eqv ?_;rw[show ST 6=true from rfl,show Rr 6=1 from rfl,show Rs 6=0 from rfl,show Rq 6=false from rfl,show TX 6=false from rfl,cond_false,Vh,JG];exact qT
 by_cases c7:k=7
 ·subst c7
  refine (cX hd nm op lw lh ll eh en ei el ep args.length ecap sp thn.length scap sq els.length scbp deep _ _ w ks kh).eqv ?_;rw[show ST 7=true from rfl,show Rr 7=1 from rfl,show Rs 7=0 from rfl,show Rq 7=false from rfl,show TX 7=false from rfl,cond_false,Vh,JG];exact qT
 refine (cO k hd nm op lw lh ll eh en ei el ep args.length ecap sp thn.length scap sq els.length scbp deep _ w asB ks).eqv ?_;rw[show ST k=false by unfold ST;exact decide_eq_false asB];rfl
theorem JX:∀(n:Nat),n≤8→∀(L:Sl St) (deep:Int) (w:World),deep=9-(n:Int)→L.In w 14 St.cells (St.In w)→L.size St.sz≤1048576 →
  Kp Zx w 107 #[L.v,.int .i64 deep] (.bool (St.mayB n L.l))
 | 0,_,L,deep,w,hd,h,_=>by
  refine (yM deep (fun _=>true) (St.In w) w L h (fun h8=>absurd h8 asB)).eqv ?_;rw[decide_eq_false (show ¬deep≤8 by omega),Bool.false_and,Bool.or_false];congr 1
  unfold St.mayB;by_cases h0:L.l.length=0
  ·rw[h0];rfl
  ·rw[decide_eq_false h0,Bool.and_false]
   symm;rw[beq_eq_false_iff_ne];omega
 | n+1,hn,L,deep,w,hd,h,hz=>by
  refine (yM deep (fun s=>s.one&&(St.mayB n s.thn&&St.mayB n s.els)) (St.In w) w L h (fun _ x hx=>?_)).eqv ?_
  ·have hi:=h.kids x hx
   have YB:=U3 hz hx;have e1:=St.sz_eq x;exact cY x n deep (9-(n:Int)) w hi YB (by rw[Wv _ (by omega)];omega)
    (JX n asB x.thnS _ w rfl hi.inThn (show (x.thn.map St.sz).sum≤_ by omega))
    (JX n asB x.elsS _ w rfl hi.inEls (show (x.els.map St.sz).sum≤_ by omega))
  ·rw[decide_eq_true (show deep≤8 by omega),Bool.true_and]
   congr 1
   rw[St.mayB];unfold Xe;by_cases h0:L.l.length=0
   ·rw[List.eq_nil_of_length_eq_zero h0];rfl
   ·rw[decide_eq_false h0,Bool.false_or,show decide ((0:Int)≤(L.l.length:Int))=true from decide_eq_true asB,Bool.true_and]
    congr 1
    rw[decide_eq_decide];omega
end Go.Proofs.YtknmeggfokpbjaaGreat

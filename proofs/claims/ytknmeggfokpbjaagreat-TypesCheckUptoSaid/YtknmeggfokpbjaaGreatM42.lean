/-
  WHAT IS PROVED HERE: a part of the proof (made narrower and merged by program; the parts: Jk Jl).
-/
import Derived.Test.YtknmeggfokpbjaaGreatM41
set_option maxRecDepth 100000
set_option maxHeartbeats 8000000
set_option linter.all false
namespace Go.Proofs.YtknmeggfokpbjaaGreat
open Z
open Go.RowKit Go.Proofs.Tryz
open Ending renaming returned→Zd
open Lib renaming hid→Zf
open List renaming drop_zero→Zh,mem_of_getElem?→Zo
open Nat renaming le_refl→Zt,zero_le→Zw
open Go.Proofs.Tryz renaming prog→Zx
open Value renaming bool→Zy,int→Zz
open Go.RowKit
theorem OJ(a b:Int):(!decide (a<b))=decide (b≤a):=by
 rw[←decide_not,decide_eq_decide,Int.not_lt]
theorem cZ(t:Ta)(w:World)(h:t.In w)(hz:t.sz≤1048576):Kp Zx w 108 #[.agg t.cells.toArray] (.bool (Tn t)):=by
 intro y0;have h:=h.plus y0;obtain⟨V,hV⟩:=ZB (plus w y0);rw[hV]at h ⊢;clear hV;unfold Ta.sz Cl.sz at hz;have hks:t.keys.size Ke.sz≤1048576:=asB;have bkn:t.keys.l.length≤1048576:=Xk Ke.sz En _ hks;have bgn:t.dflt.args.l.length≤1048576:=zQ _ asB;have c0:=SS t.name V;have c1:=JZ t.actions V h.actions asB;have c2:=SS t.dflt.name V;have ck:=fun x (hx:x∈t.keys.l)=>F3 (Ke.e x) V (h.keys.kids x hx).e (by have:=U3 hks hx;unfold Ke.sz at this;omega);have cg:=fun x (hx:x∈t.dflt.args.l)=>JY x V (h.dflt.args.kids x hx);have rk:=h.keys.row;have rg:=h.dflt.args.row;obtain⟨nm,⟨kp,kc,kl⟩,⟨ap,ac,al⟩,⟨dn,⟨gp,gc,gl⟩⟩⟩:=t;simp only[Sl.v]at bkn bgn c0 c1 c2 ck cg rk rg;clear h hz hks;have e0:decide ((0:Int)≤(gl.length:Int))=true:=decide_eq_true asB;have hT:Tn ⟨nm,⟨kp,kc,kl⟩,⟨ap,ac,al⟩,⟨dn,⟨gp,gc,gl⟩⟩⟩=((YK nm&&((!decide ((kl.length:Int)<1))&&((!decide ((4:Int)<(kl.length:Int)))&&((!decide ((al.length:Int)<1))&&((!decide ((16:Int)<(al.length:Int)))&&(al.all YK&&(YK dn&&(!decide ((8:Int)<(gl.length:Int))))))))))&&(kl.all SL&&gl.all UX)):=by
  simp only[Tn,Xe,OJ,e0,Bool.true_and];ac_rfl
 rw[hT];clear hT e0;show Calls Zx 108 #[.agg #[.string nm,.slice kp kl.length kc,.slice ap al.length ac,.string dn,.slice gp gl.length gc]] V _
 generalize YK nm=s0 at c0 ⊢;generalize al.all YK=s1 at c1 ⊢;generalize YK dn=s2 at c2 ⊢;obtain⟨kn,Ua⟩:=ZB kl.length;obtain⟨gn,hgn⟩:=ZB gl.length;generalize al.length=an at c1 ⊢;rw[Ua]at bkn ⊢;rw[hgn]at bgn ⊢;obtain⟨A,hA⟩:=ZB (kl.all SL);obtain⟨T,hT⟩:=ZB (gl.all UX);obtain⟨G,hG⟩:=ZB (s0&&((!decide ((kn:Int)<1))&&((!decide ((4:Int)<(kn:Int)))&&((!decide ((an:Int)<1))&&((!decide ((16:Int)<(an:Int)))&&(s1&&(s2&&(!decide ((8:Int)<(gn:Int))))))))));obtain⟨R,hR⟩:=ZB (G&&(A&&T));obtain⟨C,hC⟩:=ZB (!G);rw[hA,hT,hG,hR];have bkn':=Zf bkn;have bgn':=Zf bgn;have c0':=Zf c0;have c1':=Zf c1;have c2':=Zf c2;have ck':=Zf ck;have cg':=Zf cg;have rk':=Zf rk;have rg':=Zf rg;have NC:=Zf Ua;have hgn':=Zf hgn;have YV:=Zf hA;have WB:=Zf hT;have WJ:=Zf hG;have ZR:=Zf hR;have YY:=Zf hC;clear bkn bgn c0 c1 c2 ck cg rk rg Ua hgn hA hT hG hR hC;go_enter func108,ntmps108;go_upto_region 1 with (fail)
 obtain⟨W,yy,hW,⟨z,hz⟩,cb0⟩:=YO V _ 58;open Z renaming aiR→AA in exact uB
theorem jW{k x:Nat}(v s T:Bool)(h:¬k=x):false=(v&&(decide ((k:Int)≤(x:Int))&&decide ((x:Int)≤(k:Int))&&s)&&T):=by
 rcases Nat.lt_or_gt_of_ne h with g|g
 ·rw[decide_eq_false (show ¬(x:Int)≤(k:Int) by omega),Bool.and_false,Bool.false_and,Bool.and_false,Bool.false_and]
 ·rw[decide_eq_false (show ¬(k:Int)≤(x:Int) by omega),Bool.false_and,Bool.false_and,Bool.and_false,Bool.false_and]
theorem cN(a0 a1p a1n a1c)(a2:ByteArray)(a3p a3n a3c a4p a4n a4c s0 s1 s2 w)(ht:(a2.toList==[])=false)(h0:Kp Zx w 104 #[.string a0] (.bool s0))(h1:Kp Zx w 109 #[.slice a1p a1n a1c] (.bool s1))(h2:Kp Zx w 170 #[.string a2] (.bool s2)) :
  Kp Zx w 106 #[.agg #[.string a0,.slice a1p a1n a1c,.string a2,.slice a3p a3n a3c,.slice a4p a4n a4c]] (.bool (s0&&(!decide ((8:Int)<(a1n:Int))&&(s1&&(s2&&(((a3n:Int)==0)&&((a4n:Int)==0))))))):=by
 intro y0;have h0:=h0.up y0;have h1:=h1.up y0;have h2:=h2.up y0;obtain⟨V,hV⟩:=ZB (plus w y0);rw[hV]at h0 h1 h2 ⊢;clear hV;have htx:¬a2.toList=[]:=atd;have YC:(a2.toList !=[])=true:=atd;obtain⟨R,hR⟩:=ZB (s0&&(!decide ((8:Int)<(a1n:Int))&&(s1&&(s2&&(((a3n:Int)==0)&&((a4n:Int)==0))))));rw[hR];cases s0
 case false =>
  open Z renaming qY→Xy in exact Xz
 case true =>
  by_cases q1:(8:Int)<(a1n:Int)
  case neg =>
   cases s1
   case false =>
    open Z renaming asv→WV in exact WX
   case true =>
    cases s2
    case false =>
     open Z renaming Hm→WV in exact WX
    case true =>
     by_cases q2:((a3n:Int)==0)=true
     case neg =>
      have q2:((a3n:Int)==0)=false:=asL;open Z renaming Hm→Vg in exact Vk
     case pos =>
      by_cases q3:((a4n:Int)==0)=true
      case neg =>
       have q3:((a4n:Int)==0)=false:=asP;open Z renaming Hm→SI in exact SV
      case pos =>
       open Z renaming Hm→Jj in exact IW
  case pos =>
   open Z renaming qY→WV in exact WX
theorem cM(t:Sa)(w:World)(h:t.In w)(hz:t.sz≤1048576)(ht:(t.tX9.toList==[])=true):Kp Zx w 106 #[.agg t.cells.toArray] (.bool (VZ t)):=by
 intro y0;have h:=h.plus y0;obtain⟨V,hV⟩:=ZB (plus w y0);rw[hV]at h ⊢;clear hV;unfold Sa.sz at hz;have VK:t.cases.size Ca.sz≤1048576:=asB;have bcn:t.cases.l.length≤1048576:=Xk Ca.sz El _ VK;have c0:=SS t.name V;have c1:=JZ t.takes V h.takes asB;have c2:=cq t.keys V h.keys asB;have rc:=h.cases.row;have cs:=fun x (hx:x∈t.cases.l)=>(show (Ca.sets x).l.length≤1048576∧Xa V 7 Se.cells (Ca.sets x).p (Ca.sets x).l∧∀y∈(Ca.sets x).l,y.In V from⟨Xk Se.sz (fun _=>Zt _) _ (by have:=U3 VK hx;unfold Ca.sz at this;omega),(h.cases.kids x hx).sets.row,(h.cases.kids x hx).sets.kids⟩);obtain⟨nm,⟨tp,tc,tl⟩,tgt,⟨kp,kc,kl⟩,⟨cp,cc,cl⟩⟩:=t;simp only[Sl.v]at bcn c0 c1 c2 rc cs ht;clear h hz VK;have e0:decide ((0:Int)≤(tl.length:Int))=true:=decide_eq_true asB;have hT:VZ ⟨nm,⟨tp,tc,tl⟩,tgt,⟨kp,kc,kl⟩,⟨cp,cc,cl⟩⟩=((YK nm&&((!decide ((8:Int)<(tl.length:Int)))&&tl.all YK))&&(((!decide ((kl.length:Int)<1))&&((!decide ((4:Int)<(kl.length:Int)))&&((!decide ((cl.length:Int)<1))&&((!decide ((16:Int)<(cl.length:Int)))&&kl.all (Ex.may 16)))))&&cl.all (Vm (kl.length:Int)))):=by
  simp only[VZ,Py,ht,if_true,Xe,OJ,e0,Bool.true_and];ac_rfl
 rw[hT];clear hT e0;show Calls Zx 106 #[.agg #[.string nm,.slice tp tl.length tc,.string tgt,.slice kp kl.length kc,.slice cp cl.length cc]] V _
 have htx:tgt.toList=[]:=atd;have YC:(tgt.toList !=[])=false:=atd;generalize YK nm=s0 at c0 ⊢;generalize tl.all YK=s1 at c1 ⊢;generalize kl.all (Ex.may 16)=s2 at c2 ⊢;generalize tl.length=tn at c1 ⊢;generalize kl.length=kn at c2 ⊢;obtain⟨cn,hcn⟩:=ZB cl.length;rw[hcn]at bcn ⊢;obtain⟨A,hA⟩:=ZB (cl.all (Vm (kn:Int)));obtain⟨G,hG⟩:=ZB (s0&&((!decide ((8:Int)<(tn:Int)))&&s1));obtain⟨H,hH⟩:=ZB ((!decide ((kn:Int)<1))&&((!decide ((4:Int)<(kn:Int)))&&((!decide ((cn:Int)<1))&&((!decide ((16:Int)<(cn:Int)))&&s2))));obtain⟨R,hR⟩:=ZB (G&&(H&&A));obtain⟨C,hC⟩:=ZB (!G);obtain⟨D,hD⟩:=ZB (!H);rw[hA,hG,hH,hR];have bcn':=Zf bcn;have c0':=Zf c0;have c1':=Zf c1;have c2':=Zf c2;have rc':=Zf rc;have cs':=Zf cs;have hcn':=Zf hcn;have YV:=Zf hA;have WJ:=Zf hG;have hH':=Zf hH;have ZR:=Zf hR;have YY:=Zf hC;have hD':=Zf hD;clear bcn c0 c1 c2 rc cs hcn hA hG hH hR hC hD;go_enter func106,ntmps106;go_upto_region 1 with (fail)
 obtain⟨W,yy,hW,⟨z,hz⟩,cb0⟩:=YO V _ 61;open Z renaming aiS→AA in exact uB
theorem cL(s:Sa)(w:World)(h:s.In w)(hz:s.sz≤1048576):Kp Zx w 106 #[.agg s.cells.toArray] (.bool (VZ s)):=by
 cases ht:(s.tX9.toList==[]) with
 | true=>exact cM s w h hz ht
 | false =>
  have ZN:=hz;unfold Sa.sz at ZN;refine (cN s.name s.takes.p s.takes.l.length s.takes.cap s.tX9 s.keys.p s.keys.l.length s.keys.cap s.cases.p s.cases.l.length s.cases.cap _ _ _ w ht (SS s.name w) (JZ s.takes w h.takes asB) (yU s.tX9 w)).eqv ?_;congr 1
  have e0:decide ((0:Int)≤(s.takes.l.length:Int))=true:=decide_eq_true asB;simp only[VZ,Py,ht,Bool.false_eq_true,if_false,Xe,OJ,e0,Bool.true_and];ac_rfl
end Go.Proofs.YtknmeggfokpbjaaGreat

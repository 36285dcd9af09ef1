/-
  WHAT IS PROVED HERE: a part of the proof (made narrower and merged by program; the parts: Lrh Lre).
-/
import Derived.Deep.CutBlock
import Derived.Test.YtheaknidbcbneaaGreatM35
import Derived.Test.YtheaknidbcbneaaGreatM40
import Derived.Test.YtheaknidbcbneaaGreatM11
import Derived.Test.YtheaknidbcbneaaGreatM39
set_option maxRecDepth 100000
set_option maxHeartbeats 8000000
set_option linter.all false
namespace Go.Proofs.YtheaknidbcbneaaGreat
open Go.RowKit Go.Proofs.Tryz
open Below renaming refl→Zc
open Bool renaming and_eq_true→Zd
open Ending renaming returned→Zf
open Lib renaming hid→Zg
open List renaming drop_of_length_le→Zh,getElem?_eq_getElem→Zi,getElem?_eq_some_iff→Zj,mem_of_getElem?→Zl
open Nat renaming le_refl→Zp,zero_le→Zq
open Go.Proofs.Tryz renaming prog→Zr
open Value renaming bool→Zs,int→Zt
open Go.RowKit
def VR(E:Xf):List Int→List Nd→Option (List Int)
 | st,[]=>some st
 | st,n :: r=>match TT E n.fit st n with
  | some st'=>VR E st' r
  | none=>none
theorem OH(E:Xf):∀(l:List Nd) (st:List Int),VR E st l=Wo E st l
 | [],_=>rfl
 | n :: r,st=>by
  unfold VR Wo;rw[MI];cases Vt E n.fit st n with
  | none=>rfl
  | some st'=>exact OH E r st'
theorem Oa{W:World}{base:Nat}{p:Option Addr}{n c:Nat}{l:List Int}(h:W.ownsRow base 3 1 (.slice p n c) n ((l.map Xt).flatten)):Z2 W 1 Xt p l:=fun i x hx=>by
 obtain⟨g,rfl,-,-,hc⟩:=VY h hx;refine⟨_,rfl,fun j v hj=>?_⟩;match j,hj with
 | 0,hj =>
  obtain rfl:=Option.some.inj hj;rw[QH,QH];simpa using hc
theorem GZ{W:World}{base:Nat}(p:Option Addr)(m c:Nat){l:List Int}(hm:l.length=m)(Z1:Z2 W 1 Xt p l){ops:Array Oper}{rest:List Oper}{o:Oper}{a:Act}{Q:Exit→Act→World→Prop}(v:Value)(YK:W.ownsRow base 3 1 v 0 [])(Um:base≤W.heap.size)(hb:m≤1048576)(VL:o.guard=none)(s x:Operand)(ho:o.op=.call { callee:=.builtin .append,args:=#[s,x],argTypes:=#[23,23] })(hs:a.eval s=v)(hx:a.eval x=.slice p m c)(k:∀v' w',XJ w' base v' l→W.grownBy w' v.ownBlock→wpList Zr ops Q rest (a.put o.dst v') w'):wpList Zr ops Q (o :: rest) a W:=by
 obtain⟨i0,hi0,Ws,WH,hi3⟩:=info_parts Rc;refine Nt VL s x 23 ho base 3 i0 (.int .i64 0) 1 8 Tryz.underlying23 hi0 Ws WH hi3 rfl (by decide) v 0 [] hs YK p m c l Xt hx hm Z1 (fun _ _=>rfl) (by intro y _ u hu;simp only[Xt,List.mem_cons,List.not_mem_nil,or_false]at hu;subst hu;rfl)
  (by simp only[maxLen];omega) (by omega) Um fun v' w' h3 h4=>k v' w' (by
   subst hm;show w'.ownsRow base _ 1 v' l.length ((l.map Xt).flatten)
   simpa using h3) h4
theorem GF(q0p q0n q0c q1p q1n q1c q2p q2n q2c q3p q3n q3c q4p q4n q4c q5p q5n q5c q6p q6n q6c q7p q7n q7c q8p q8n q8c q9p q9n q9c q10p q10n q10c q11p q11n q11c act)(cp:Option Addr)(cn cc:Nat)(code:List Nd)(E:Xf)(w:World)(hc:Z2 w 6 Nd.cells cp code)(Wa:code.length=cn)(ZQ:∀n∈code,n.In)(hpl:∀(n:Nd) (z:ZA),n∈code→1≤n.op∧n.op≤6→Kp Zr (plus w z) 17 #[.agg #[.slice q0p q0n q0c,.slice q1p q1n q1c,.slice q2p q2n q2c,.slice q3p q3n q3c,.slice q4p q4n q4c,.slice q5p q5n q5c,.slice q6p q6n q6c,.slice q7p q7n q7c,.slice q8p q8n q8c,.slice q9p q9n q9c,.slice q10p q10n q10c,.slice q11p q11n q11c],.int .i64 act,n.val] (.int .i64 (X8 E n.fit n)))(hb:cn≤65536) :
  Calls Zr 7 #[.agg #[.slice q0p q0n q0c,.slice q1p q1n q1c,.slice q2p q2n q2c,.slice q3p q3n q3c,.slice q4p q4n q4c,.slice q5p q5n q5c,.slice q6p q6n q6c,.slice q7p q7n q7c,.slice q8p q8n q8c,.slice q9p q9n q9c,.slice q10p q10n q10c,.slice q11p q11n q11c],.int .i64 act,.slice cp cn cc] w fun e w'=>e=.returned (.tuple #[.int .i64 (Wz (VR E [] code)).1,.bool (Wz (VR E [] code)).2])∧∃x,w'=plus w x:=by
 obtain⟨W,hW,ZY,hz,ca,fa⟩:=Vx w #[.slice q0p q0n q0c,.slice q1p q1n q1c,.slice q2p q2n q2c,.slice q3p q3n q3c,.slice q4p q4n q4c,.slice q5p q5n q5c,.slice q6p q6n q6c,.slice q7p q7n q7c,.slice q8p q8n q8c,.slice q9p q9n q9c,.slice q10p q10n q10c,.slice q11p q11n q11c] 33;have hcc:Hid (∀(wr:World) (k:Nat) (x:Nd),Below W.heap.size W wr→code[k]?=some x→∃a,cp=some a∧ZG wr (a.add (k*6)) x.cells):=Zg fun wr k x hB hx=>by
  obtain⟨a,hp,hc⟩:=hc k x hx;exact⟨a,hp,V5 (hB:=ZY.trans (hB.mono ZY.size)) hc⟩
 have YG:=Zg ZY;have hcn':=Zg Wa;have hin':=Zg ZQ;have hpl':=Zg hpl;obtain⟨R1,Yj⟩:=Zv ((Wz (VR E [] code)).1);obtain⟨R2,Z0⟩:=Zv ((Wz (VR E [] code)).2);rw[Yj,Z0];have Yi:Hid (Wz (VR E [] code)=(R1,R2)):=Zg (by rw[←Yj,←Z0]);have Xc:w.heap.size<W.heap.size:=by omega
 have hb8:¬(65536:Int)<(cn:Int):=by omega
 have eb8:decide ((65536:Int)<(cn:Int))=false:=decide_eq_false hb8;have a0:=ca 0 _ rfl ⟨#[],W.drawn⟩;have a1:=ca 1 _ rfl ⟨#[],W.drawn⟩;have a2:=ca 2 _ rfl ⟨#[],W.drawn⟩;have a3:=ca 3 _ rfl ⟨#[],W.drawn⟩;have a4:=ca 4 _ rfl ⟨#[],W.drawn⟩;have a5:=ca 5 _ rfl ⟨#[],W.drawn⟩;have a6:=ca 6 _ rfl ⟨#[],W.drawn⟩;have a7:=ca 7 _ rfl ⟨#[],W.drawn⟩;have a8:=ca 8 _ rfl ⟨#[],W.drawn⟩;have a9:=ca 9 _ rfl ⟨#[],W.drawn⟩;have a10:=ca 10 _ rfl ⟨#[],W.drawn⟩;have a11:=ca 11 _ rfl ⟨#[],W.drawn⟩;rw[ZK]at a0 a1 a2 a3 a4 a5 a6 a7 a8 a9 a10 a11;obtain⟨W2,Vn⟩:=Zv (W.alloc (.cells #[.int .u64 0,.int .u64 0] 60));have Yz:Below W.heap.size W W2:=by rw[←Vn];exact (Zc _ W).alloc (Zp _) _
 have ZD:W2.heap.size=W.heap.size+1:=by rw[←Vn];simp
 have z0:W2.cell? ⟨W.heap.size,0,none⟩=some (.int .u64 0):=by rw[←Vn];exact (Z4 W _ _ _ 0 rfl).trans rfl
 have z1:W2.cell? ⟨W.heap.size,1,none⟩=some (.int .u64 0):=by rw[←Vn];exact (Z4 W _ _ _ 1 rfl).trans rfl
 have c0:W2.cell? ⟨w.heap.size,0,none⟩=_:=(Yz.cell (p:=⟨w.heap.size,0,none⟩) Xc).trans a0;have c1:W2.cell? ⟨w.heap.size,1,none⟩=_:=(Yz.cell (p:=⟨w.heap.size,1,none⟩) Xc).trans a1;have c2:W2.cell? ⟨w.heap.size,2,none⟩=_:=(Yz.cell (p:=⟨w.heap.size,2,none⟩) Xc).trans a2;have c3:W2.cell? ⟨w.heap.size,3,none⟩=_:=(Yz.cell (p:=⟨w.heap.size,3,none⟩) Xc).trans a3;have c4:W2.cell? ⟨w.heap.size,4,none⟩=_:=(Yz.cell (p:=⟨w.heap.size,4,none⟩) Xc).trans a4;have c5:W2.cell? ⟨w.heap.size,5,none⟩=_:=(Yz.cell (p:=⟨w.heap.size,5,none⟩) Xc).trans a5;have c6:W2.cell? ⟨w.heap.size,6,none⟩=_:=(Yz.cell (p:=⟨w.heap.size,6,none⟩) Xc).trans a6;have c7:W2.cell? ⟨w.heap.size,7,none⟩=_:=(Yz.cell (p:=⟨w.heap.size,7,none⟩) Xc).trans a7;have c8:W2.cell? ⟨w.heap.size,8,none⟩=_:=(Yz.cell (p:=⟨w.heap.size,8,none⟩) Xc).trans a8;have c9:W2.cell? ⟨w.heap.size,9,none⟩=_:=(Yz.cell (p:=⟨w.heap.size,9,none⟩) Xc).trans a9;have c10:W2.cell? ⟨w.heap.size,10,none⟩=_:=(Yz.cell (p:=⟨w.heap.size,10,none⟩) Xc).trans a10;have c11:W2.cell? ⟨w.heap.size,11,none⟩=_:=(Yz.cell (p:=⟨w.heap.size,11,none⟩) Xc).trans a11;have hE0:Hid (LW W2 (.slice none 0 0) [] W2):=Zg ⟨Zc _ _,World.ownsRow_nil _ _ _ _,fun x h=>by cases h⟩;have hcc2:Hid (∀(wr:World) (k:Nat) (x:Nd),Below W2.heap.size W2 wr→code[k]?=some x→∃a,cp=some a∧ZG wr (a.add (k*6)) x.cells):=Zg fun wr k x hB hx=>hcc.out wr k x (Yz.trans (hB.mono (by omega))) hx;have UF:Hid (Below w.heap.size w W2∧w.heap.size≤W2.heap.size):=Zg ⟨YG.out.trans (Yz.mono (by omega)),by omega⟩;have XF:w.heap.size<W2.heap.size:=by omega
 have hlt1:W.heap.size<W2.heap.size:=by omega
 have hW2':=Zg Vn;clear Vn;clear hcc hc Wa ca fa ZY YG hz Yj Z0 ZQ hpl a0 a1 a2 a3 a4 a5 a6 a7 a8 a9 a10 a11 Yz ZD;go_enter func7,ntmps7;go_upto_region 1 with (fail)
 rw[←hW];clear hW;go_upto_region 4 with (fail)
 rw[hW2'.out];clear hW2';go_wp2;go_loopw [9,10,11,12,13] (fun lv iv _ _ _ wr=>∃(k:Nat) (l:List Int),k≤cn∧l.length≤k∧iv=.int .i64 (k:Int)∧Hid (LW W2 lv l wr)∧Hid (Wz (VR E l (code.drop k))=(R1,R2))) (fun _ iv _ _ _ _=>cn-(intOf iv).toNat)
 case atStart=>exact⟨0,[],Zq _,Zp _,rfl,hE0,Yi⟩
 case round =>
  obtain⟨k,l,hk,hlk,rfl,hEI,hm⟩:=hrel;clear hE0 Yi;by_cases Zz:k<cn
  ·obtain⟨⟨op,nw,na,nb,⟨vh,vl⟩⟩,hq⟩:∃q,code[k]?=some q:=⟨code[k]'(by rw[hcn'.out];exact Zz),Zi _⟩
   obtain⟨a,rfl,hc⟩:=hcc2.out wr k _ hEI.out.below hq;have d0:=hc.c0 _ rfl;have d1:=hc.cs 0 _ rfl;have d2:=hc.cs 1 _ rfl;have d3:=hc.cs 2 _ rfl;have d4:=hc.cs 3 _ rfl;have d5:=hc.cs 4 _ rfl;obtain⟨h1,h2⟩:=Zj.1 hq;have Sy:code.drop k=⟨op,nw,na,nb,⟨vh,vl⟩⟩ :: code.drop (k+1):=by rw[List.drop_eq_getElem_cons h1,h2]
   have YJ:=hm.out;rw[Sy,VR]at YJ;replace YJ:=Zg YJ;have k0:¬((k:Int)<0):=by omega
   have k1:(k:Int)<(cn:Int):=by omega
   have X4:Hid ((⟨op,nw,na,nb,⟨vh,vl⟩⟩:Nd)∈code):=Zg (Zl hq);obtain⟨sp,sc,hv,W4,hsn,hss⟩:=Sc hEI.out.own;subst hv;obtain⟨nl,hnl⟩:=Zv l.length;rw[hnl]at hEI hlk W4 hsn ⊢;obtain⟨V9,hV9⟩:=Zv (wr.alloc (.cells #[.int .u8 op,.int .i64 nw,.int .i64 na,.int .i64 nb,.int .u64 vh,.int .u64 vl] 79));have ZT:Hid (LW W2 (.slice sp nl sc) l V9):=Zg (by rw[←hV9];exact hEI.out.alloc _);have hs9:V9.heap.size=wr.heap.size+1:=by rw[←hV9];simp
   have X5:∀j v,#[.int .u8 op,.int .i64 nw,.int .i64 na,.int .i64 nb,.int .u64 vh,.int .u64 vl][j]?=v→V9.cell? ⟨wr.heap.size,j,none⟩=v:=fun j v h=>by rw[←hV9];exact (Z4 _ _ _ _ j rfl).trans h
   have e0:=Yb (by omega) (X5 0 _ rfl);have e1:=Yb (by omega) (X5 1 _ rfl);have e2:=Yb (by omega) (X5 2 _ rfl);have e3:=Yb (by omega) (X5 3 _ rfl);have e4:=Yb (by omega) (X5 4 _ rfl);have e5:=Yb (by omega) (X5 5 _ rfl);have b0:=Yb (by have:=ZT.out.below.size;omega) (ZT.out.cell XF c0);have b1:=Yb (by have:=ZT.out.below.size;omega) (ZT.out.cell XF c1);have b2:=Yb (by have:=ZT.out.below.size;omega) (ZT.out.cell XF c2);have b3:=Yb (by have:=ZT.out.below.size;omega) (ZT.out.cell XF c3);have b4:=Yb (by have:=ZT.out.below.size;omega) (ZT.out.cell XF c4);have b5:=Yb (by have:=ZT.out.below.size;omega) (ZT.out.cell XF c5);have b6:=Yb (by have:=ZT.out.below.size;omega) (ZT.out.cell XF c6);have b7:=Yb (by have:=ZT.out.below.size;omega) (ZT.out.cell XF c7);have b8:=Yb (by have:=ZT.out.below.size;omega) (ZT.out.cell XF c8);have b9:=Yb (by have:=ZT.out.below.size;omega) (ZT.out.cell XF c9);have b10:=Yb (by have:=ZT.out.below.size;omega) (ZT.out.cell XF c10);have b11:=Yb (by have:=ZT.out.below.size;omega) (ZT.out.cell XF c11);have y0:=Yb (by have:=ZT.out.below.size;omega) (ZT.out.cell hlt1 z0);have y1:=Yb (by have:=ZT.out.below.size;omega) (ZT.out.cell hlt1 z1);have n0:V9.cell? ⟨wr.heap.size,0,none⟩=some _:=X5 0 _ rfl;have n1:V9.cell? ⟨wr.heap.size,1,none⟩=some _:=X5 1 _ rfl;have n2:V9.cell? ⟨wr.heap.size,2,none⟩=some _:=X5 2 _ rfl;have n3:V9.cell? ⟨wr.heap.size,3,none⟩=some _:=X5 3 _ rfl;have n4:V9.cell? ⟨wr.heap.size,4,none⟩=some _:=X5 4 _ rfl;have n5:V9.cell? ⟨wr.heap.size,5,none⟩=some _:=X5 5 _ rfl;have x0:=ZT.out.cell hlt1 z0;have x1:=ZT.out.cell hlt1 z1;have v0:=ZT.out.cell XF c0;have v1:=ZT.out.cell XF c1;have v2:=ZT.out.cell XF c2;have v3:=ZT.out.cell XF c3;have v4:=ZT.out.cell XF c4;have v5:=ZT.out.cell XF c5;have v6:=ZT.out.cell XF c6;have v7:=ZT.out.cell XF c7;have v8:=ZT.out.cell XF c8;have v9:=ZT.out.cell XF c9;have v10:=ZT.out.cell XF c10;have v11:=ZT.out.cell XF c11;have UH:=Zg (UF.out.1.trans (ZT.out.below.mono UF.out.2));have Y3:=Zg (fun (y:ZA)=>UF.out.1.trans ((ZT.out.plus y).below.mono UF.out.2));have hV9':=Zg hV9;clear hV9;go_upto_region 9 with (fail)
   rw[hV9'.out];clear hV9' X5 d0 d1 d2 d3 d4 d5 hc hq hm h1 h2 Sy;obtain⟨z9,hz9⟩:=ZS (UF.out.1.trans (ZT.out.below.mono UF.out.2));have hz9':=Zg hz9;clear hz9;go_upto_block 2 with (fail)
   obtain⟨T,hT⟩:=Zv ((nl:Int)-1:Int);rw[hT];replace hT:=Zg hT;go_cut [9,12] (fun s9 s12 wx=>∃(n':Nat) (x:Int),s9=.slice sp n' sc∧s12=.int .i64 x∧n'≤nl∧(∃y,wx=Go.Proofs.YtheaknidbcbneaaGreat.plus V9 y)∧Hid (Wz (match Ui (l.take n') ⟨op,nw,na,nb,⟨vh,vl⟩⟩ x with|some st'=>VR E st' (code.drop (k+1))|none=>none)=(R1,R2)))
   case first =>
    by_cases h6:1≤op∧op≤6
    ·have s1:decide (1≤op)=true:=decide_eq_true h6.1
     have s2:decide (op≤6)=true:=decide_eq_true h6.2;have hP:=hpl'.out ⟨op,nw,na,nb,⟨vh,vl⟩⟩ z9 X4.out h6;rw[←hz9'.out]at hP;have hQ:=YJ.out;unfold TT at hQ;rw[if_pos h6]at hQ;obtain⟨X,hX⟩:=Zv (X8 E (Nd.fit ⟨op,nw,na,nb,⟨vh,vl⟩⟩) ⟨op,nw,na,nb,⟨vh,vl⟩⟩);rw[hX]at hP hQ;simp only[Nd.val]at hP;replace hP:=Zg hP;replace hQ:=Zg hQ;clear hX YJ;go_wp2_with fail;refine (YN hP.out).mono ?_;rintro e w' ⟨rfl,y9,rfl⟩;go_wp2_with fail;go_meet;exact⟨nl,X,rfl,rfl,Zp _,⟨_,rfl⟩,Zg (by rw[List.take_of_length_le (by omega)];exact hQ.out)⟩
    ·have hQ:=YJ.out
     unfold TT at hQ;rw[if_neg h6]at hQ;by_cases g1:1≤op
     ·have s1:decide (1≤op)=true:=decide_eq_true g1
      have s2:decide (op≤6)=false:=decide_eq_false (fun h=>h6 ⟨g1,h⟩);by_cases u1:vh=0
      ·have v1:(vh==0)=true:=by rw[u1];rfl
       have v2:(vh !=0)=false:=by rw[u1];rfl
       by_cases u2:vl=0
       ·have w1:(vl==0)=true:=by rw[u2];rfl
        have w2:(vl !=0)=false:=by rw[u2];rfl
        rw[if_neg (by simp[WP,u1,u2])]at hQ;subst u1 u2;by_cases hs:op=7∨op=8∨op=9∨op=13∨op=14
        ·skip
         rw[if_pos hs]at hQ;by_cases hn:nl<1
         ·have tn:decide (T<0)=true:=decide_eq_true (by have:=hT.out;omega)
          rw[if_pos (by omega)]at hQ;rcases hs with rfl|rfl|rfl|rfl|rfl
          all_goals
           obtain⟨rfl,rfl⟩:=Prod.mk.inj (show ((0:Int),false)=(R1,R2) from hQ);clear hQ YJ;go_wp2;refine bodyPost_ret (v:=.tuple #[.int .i64 0,.bool false]) (by simp[results,Tryz.results7,go_sem]) rfl ⟨rfl,ZS (by first|exact UH.out|exact Y3.out _)⟩
         ·rw[if_neg (by omega)]at hQ
          rw[hnl]at hQ;obtain⟨m,rfl⟩:∃m:Nat,T=(m:Int):=⟨nl-1,by have:=hT.out;omega⟩;have hm1:=hT.out;have tn:decide ((m:Int)<0)=false:=decide_eq_false (by omega);have tf:¬(m:Int)<0:=by omega
          obtain⟨x,hx⟩:=Z6 l m (by omega);have YK:=ZT.out.own;unfold XJ at YK;rw[hnl]at YK;obtain⟨g,rfl,hg1,WG,hcx⟩:=VY YK hx;have WF:=Yb WG hcx;have hcz:=WF ⟨#[],V9.drawn⟩;rw[ZK]at hcz;have hS:=(Gz ⟨op,nw,na,nb,⟨0,0⟩⟩ x V9 (ZT.out.wid x (Zl hx)) hs);have e1:nl-1=m:=by omega
          rw[e1,show l.getD m 0=x by rw[List.getD_eq_getElem?_getD,hx];rfl]at hQ;obtain⟨S,hSS⟩:=Zv (Ut ⟨op,nw,na,nb,⟨0,0⟩⟩ x);rw[hSS]at hS hQ;simp only[Nd.val]at hS;replace hS:=Zg hS.pure;replace hQ:=Zg hQ;have r1:(m:Int)≤(nl:Int):=by omega
          have r2:(m:Int)≤(sc:Int):=by omega
          have r3:(nl:Int)≤(sc:Int):=by omega
          have r4:(0:Int)≤(m:Int):=by omega
          have r5:(m:Int)<(nl:Int):=by omega
          clear hSS YK YJ hx hm1;rcases hs with rfl|rfl|rfl|rfl|rfl
          all_goals
           go_upto_region 22 with (fail)
           refine VS (by kernel_rfl) (by kernel_rfl) ?_;repeat (go_big_quiet_step (first|(with_reducible exact hS.out _)))
           refine wpQuiet_nil ?_;rintro _ ⟨y9,rfl⟩;go_wp2_with fail;go_meet;exact⟨m,S,rfl,rfl,by omega,⟨_,rfl⟩,hQ⟩
        ·skip
         rw[if_neg hs]at hQ;have m7:(op==7)=false:=by rw[beq_eq_false_iff_ne];omega
         have m8:(op==8)=false:=by rw[beq_eq_false_iff_ne];omega
         have m9:(op==9)=false:=by rw[beq_eq_false_iff_ne];omega
         have m13:(op==13)=false:=by rw[beq_eq_false_iff_ne];omega
         have m14:(op==14)=false:=by rw[beq_eq_false_iff_ne];omega
         by_cases hn:nl<2
         ·have tn:decide (T<1)=true:=decide_eq_true (by have:=hT.out;omega)
          rw[if_pos (by omega)]at hQ;obtain⟨rfl,rfl⟩:=Prod.mk.inj (show ((0:Int),false)=(R1,R2) from hQ);clear hQ YJ;go_wp2;refine bodyPost_ret (v:=.tuple #[.int .i64 0,.bool false]) (by simp[results,Tryz.results7,go_sem]) rfl ⟨rfl,ZS (by first|exact UH.out|exact Y3.out _)⟩
         ·rw[if_neg (by omega)]at hQ
          rw[hnl]at hQ;obtain⟨t,rfl⟩:∃t:Nat,T=(t:Int):=⟨nl-1,by have:=hT.out;omega⟩;obtain⟨m,hm1⟩:∃m:Nat,(t:Int)-1=(m:Int):=⟨nl-2,by have:=hT.out;omega⟩;have ht1:nl-1=t:=by have:=hT.out;omega
          have ht2:nl-2=m:=by have:=hT.out;omega
          have tn:decide ((t:Int)<1)=false:=decide_eq_false (by omega);have tf:¬(t:Int)<0:=by omega
          have tg:¬(m:Int)<0:=by omega
          obtain⟨x,hx⟩:=Z6 l m (by omega);obtain⟨y,hy⟩:=Z6 l t (by omega);have YK:=ZT.out.own;unfold XJ at YK;rw[hnl]at YK;obtain⟨g,rfl,hg1,WG,hcx⟩:=VY YK hx;obtain⟨g2,hge,hg3,hg4,hcx2⟩:=VY YK hy;obtain rfl:g2=g:=by simp only[Option.some.injEq,Addr.mk.injEq,and_true]at hge;exact hge.symm
          have WF:=Yb WG hcx;have hcz:=WF ⟨#[],V9.drawn⟩;have hcy2:=Yb WG hcx2;have hcz2:=hcy2 ⟨#[],V9.drawn⟩;rw[ZK]at hcz hcz2;have hS:=(Oz ⟨op,nw,na,nb,⟨0,0⟩⟩ x y V9 (ZT.out.wid x (Zl hx)) (ZT.out.wid y (Zl hy)) (by simp only;omega));rw[ht1,ht2,show l.getD m 0=x by rw[List.getD_eq_getElem?_getD,hx];rfl,show l.getD t 0=y by rw[List.getD_eq_getElem?_getD,hy];rfl]at hQ;obtain⟨S,hSS⟩:=Zv (Wu ⟨op,nw,na,nb,⟨0,0⟩⟩ x y);rw[hSS]at hS hQ;simp only[Nd.val]at hS;replace hS:=Zg hS.pure;replace hQ:=Zg hQ;have r1:(m:Int)≤(nl:Int):=by omega
          have r2:(m:Int)≤(sc:Int):=by omega
          have r3:(nl:Int)≤(sc:Int):=by omega
          have r4:(0:Int)≤(m:Int):=by omega
          have r5:(m:Int)<(nl:Int):=by omega
          have r6:(t:Int)<(nl:Int):=by omega
          clear hSS YK YJ hx hy hs ht1 ht2;go_upto_region 13 with (fail)
          refine VS (by kernel_rfl) (by kernel_rfl) ?_;repeat (go_big_quiet_step (first|(with_reducible exact hS.out _)))
          refine wpQuiet_nil ?_;rintro _ ⟨y9,rfl⟩;go_wp2_with fail;go_meet;exact⟨m,S,rfl,rfl,by omega,⟨_,rfl⟩,hQ⟩
       ·have w1:(vl==0)=false:=by simpa using u2
        have w2:(vl !=0)=true:=by simpa using u2
        rw[if_pos (by simp[WP,u2])]at hQ;obtain⟨rfl,rfl⟩:=Prod.mk.inj (show ((0:Int),false)=(R1,R2) from hQ);clear hQ YJ;go_wp2;refine bodyPost_ret (v:=.tuple #[.int .i64 0,.bool false]) (by simp[results,Tryz.results7,go_sem]) rfl ⟨rfl,ZS (by first|exact UH.out|exact Y3.out _)⟩
      ·have v1:(vh==0)=false:=by simpa using u1
       have v2:(vh !=0)=true:=by simpa using u1
       rw[if_pos (by simp[WP,u1])]at hQ;obtain⟨rfl,rfl⟩:=Prod.mk.inj (show ((0:Int),false)=(R1,R2) from hQ);clear hQ YJ;go_wp2;refine bodyPost_ret (v:=.tuple #[.int .i64 0,.bool false]) (by simp[results,Tryz.results7,go_sem]) rfl ⟨rfl,ZS (by first|exact UH.out|exact Y3.out _)⟩
     ·have s1:decide (1≤op)=false:=decide_eq_false g1
      have hs:¬(op=7∨op=8∨op=9∨op=13∨op=14):=by omega
      by_cases u1:vh=0
      ·have v1:(vh==0)=true:=by rw[u1];rfl
       have v2:(vh !=0)=false:=by rw[u1];rfl
       by_cases u2:vl=0
       ·have w1:(vl==0)=true:=by rw[u2];rfl
        have w2:(vl !=0)=false:=by rw[u2];rfl
        rw[if_neg (by simp[WP,u1,u2])]at hQ;subst u1 u2;rw[if_neg hs]at hQ;have m7:(op==7)=false:=by rw[beq_eq_false_iff_ne];omega
        have m8:(op==8)=false:=by rw[beq_eq_false_iff_ne];omega
        have m9:(op==9)=false:=by rw[beq_eq_false_iff_ne];omega
        have m13:(op==13)=false:=by rw[beq_eq_false_iff_ne];omega
        have m14:(op==14)=false:=by rw[beq_eq_false_iff_ne];omega
        by_cases hn:nl<2
        ·have tn:decide (T<1)=true:=decide_eq_true (by have:=hT.out;omega)
         rw[if_pos (by omega)]at hQ;obtain⟨rfl,rfl⟩:=Prod.mk.inj (show ((0:Int),false)=(R1,R2) from hQ);clear hQ YJ;go_wp2;refine bodyPost_ret (v:=.tuple #[.int .i64 0,.bool false]) (by simp[results,Tryz.results7,go_sem]) rfl ⟨rfl,ZS (by first|exact UH.out|exact Y3.out _)⟩
        ·rw[if_neg (by omega)]at hQ
         rw[hnl]at hQ;obtain⟨t,rfl⟩:∃t:Nat,T=(t:Int):=⟨nl-1,by have:=hT.out;omega⟩;obtain⟨m,hm1⟩:∃m:Nat,(t:Int)-1=(m:Int):=⟨nl-2,by have:=hT.out;omega⟩;have ht1:nl-1=t:=by have:=hT.out;omega
         have ht2:nl-2=m:=by have:=hT.out;omega
         have tn:decide ((t:Int)<1)=false:=decide_eq_false (by omega);have tf:¬(t:Int)<0:=by omega
         have tg:¬(m:Int)<0:=by omega
         obtain⟨x,hx⟩:=Z6 l m (by omega);obtain⟨y,hy⟩:=Z6 l t (by omega);have YK:=ZT.out.own;unfold XJ at YK;rw[hnl]at YK;obtain⟨g,rfl,hg1,WG,hcx⟩:=VY YK hx;obtain⟨g2,hge,hg3,hg4,hcx2⟩:=VY YK hy;obtain rfl:g2=g:=by simp only[Option.some.injEq,Addr.mk.injEq,and_true]at hge;exact hge.symm
         have WF:=Yb WG hcx;have hcz:=WF ⟨#[],V9.drawn⟩;have hcy2:=Yb WG hcx2;have hcz2:=hcy2 ⟨#[],V9.drawn⟩;rw[ZK]at hcz hcz2;have hS:=(Oz ⟨op,nw,na,nb,⟨0,0⟩⟩ x y V9 (ZT.out.wid x (Zl hx)) (ZT.out.wid y (Zl hy)) (by simp only;omega));rw[ht1,ht2,show l.getD m 0=x by rw[List.getD_eq_getElem?_getD,hx];rfl,show l.getD t 0=y by rw[List.getD_eq_getElem?_getD,hy];rfl]at hQ;obtain⟨S,hSS⟩:=Zv (Wu ⟨op,nw,na,nb,⟨0,0⟩⟩ x y);rw[hSS]at hS hQ;simp only[Nd.val]at hS;replace hS:=Zg hS.pure;replace hQ:=Zg hQ;have r1:(m:Int)≤(nl:Int):=by omega
         have r2:(m:Int)≤(sc:Int):=by omega
         have r3:(nl:Int)≤(sc:Int):=by omega
         have r4:(0:Int)≤(m:Int):=by omega
         have r5:(m:Int)<(nl:Int):=by omega
         have r6:(t:Int)<(nl:Int):=by omega
         clear hSS YK YJ hx hy hs ht1 ht2;go_upto_region 13 with (fail)
         refine VS (by kernel_rfl) (by kernel_rfl) ?_;repeat (go_big_quiet_step (first|(with_reducible exact hS.out _)))
         refine wpQuiet_nil ?_;rintro _ ⟨y9,rfl⟩;go_wp2_with fail;go_meet;exact⟨m,S,rfl,rfl,by omega,⟨_,rfl⟩,hQ⟩
       ·have w1:(vl==0)=false:=by simpa using u2
        have w2:(vl !=0)=true:=by simpa using u2
        rw[if_pos (by simp[WP,u2])]at hQ;obtain⟨rfl,rfl⟩:=Prod.mk.inj (show ((0:Int),false)=(R1,R2) from hQ);clear hQ YJ;go_wp2;refine bodyPost_ret (v:=.tuple #[.int .i64 0,.bool false]) (by simp[results,Tryz.results7,go_sem]) rfl ⟨rfl,ZS (by first|exact UH.out|exact Y3.out _)⟩
      ·have v1:(vh==0)=false:=by simpa using u1
       have v2:(vh !=0)=true:=by simpa using u1
       rw[if_pos (by simp[WP,u1])]at hQ;obtain⟨rfl,rfl⟩:=Prod.mk.inj (show ((0:Int),false)=(R1,R2) from hQ);clear hQ YJ;go_wp2;refine bodyPost_ret (v:=.tuple #[.int .i64 0,.bool false]) (by simp[results,Tryz.results7,go_sem]) rfl ⟨rfl,ZS (by first|exact UH.out|exact Y3.out _)⟩
   case rest =>
    obtain⟨n',x,rfl,rfl,ZJ,⟨y9,rfl⟩,hQ⟩:=hcut;have VD:=Zg (ZT.out.plus y9);have n1:=e1 y9;have Sz:=Zg (Y3.out y9);generalize Go.Proofs.YtheaknidbcbneaaGreat.plus V9 y9=V10 at VD n1 Sz ⊢;clear b0 b1 b2 b3 b4 b5 b6 b7 b8 b9 b10 b11 v0 v1 v2 v3 v4 v5 v6 v7 v8 v9 v10 v11 Y3 UH YJ hz9' n0 n2 n3 n4 n5 x0 x1 y0 y1 e0 e1 e2 e3 e4 e5;have hOK:=Zg (Qj x V10);by_cases hw:x=nw
    ·subst hw
     have YP:(x !=x)=false:=by simp
     obtain⟨B,hB⟩:=Zv (decide (0<x)&&decide (x<129));rw[hB]at hOK;cases B with
     | false =>
      have VF:=hQ.out;rw[show Ui (l.take n') ⟨op,x,na,nb,⟨vh,vl⟩⟩ x=none from if_neg (fun h=>by have h2:=h.2;unfold Uq at h2;simp only[Zd,decide_eq_true_eq]at h2;simp only[Bool.and_eq_false_iff,decide_eq_false_iff_not]at hB;omega)]at VF;obtain⟨rfl,rfl⟩:=Prod.mk.inj (show ((0:Int),false)=(R1,R2) from VF);clear hQ VF hB;go_wp2_with fail;refine (YN hOK.out).mono ?_;rintro e w' ⟨rfl,y8,rfl⟩;go_wp2_with fail;refine bodyPost_ret (v:=.tuple #[.int .i64 0,.bool false]) (by simp[results,Tryz.results7,go_sem]) rfl ⟨rfl,ZS (Sz.out.trans ((Z9 V10 y8).mono Sz.out.size))⟩
     | true =>
      have hx1:1≤x∧x≤128:=by simp only[Zd,decide_eq_true_eq]at hB;omega
      have VF:=hQ.out;rw[show Ui (l.take n') ⟨op,x,na,nb,⟨vh,vl⟩⟩ x=some (l.take n'++[x]) from if_pos ⟨rfl,by unfold Uq;simp only[Zd,decide_eq_true_eq];exact hx1⟩]at VF;replace VF:=Zg VF;clear hQ hB;go_wp2_with fail;refine (YN hOK.out).mono ?_;rintro e w' ⟨rfl,y8,rfl⟩;have YA:Hid ((l.take n').length=n'):=Zg (by rw[List.length_take];omega);have hn7:Hid (n'≤65536):=Zg (by omega);have W8:Hid (Below W2.heap.size W2 (Go.Proofs.YtheaknidbcbneaaGreat.plus V10 y8)∧(Go.Proofs.YtheaknidbcbneaaGreat.plus V10 y8).ownsRow W2.heap.size 3 1 (.slice sp n' sc) n' (((l.take n').map Xt).flatten)∧∀x∈l,1≤x∧x≤128):=Zg (by
       have h9:=VD.out.plus y8;have h8:=h9.own;unfold XJ at h8;rw[hnl]at h8;have h7:=P8 h8 ZJ;rw[←O8,List.map_take.symm]at h7;exact⟨h9.below,h7,h9.wid⟩)
      generalize Go.Proofs.YtheaknidbcbneaaGreat.plus V10 y8=V11 at W8 ⊢;clear VD n1 hOK Sz;have Sx:Hid (k+1≤cn∧(l.take n'++[x]).length≤k+1):=Zg (by refine⟨Zz,?_⟩;simp only[List.length_append,List.length_take,List.length_cons,List.length_nil];omega);go_upto_region 26 with (fail)
      go_wp2_with (at_builtin;refine GZ (W:=V11.alloc (.cells #[] 3)) (base:=W2.heap.size) sp n' sc YA.out (Oa (W8.out.2.1.alloc _)) (.slice (some ⟨V11.heap.size,0,none⟩) 0 0) (World.ownsRow_lit V11 #[] 0 W8.out.1.size (by simp[maxLen]) rfl) (by have:=W8.out.1.size;simp;omega) (by have:=hn7.out;omega) rfl _ _ rfl rfl rfl ?_);intro v' w1 Tj hgrow1;have Xq:=(W8.out.1.alloc W8.out.1.size (.cells #[] 3)).grown hgrow1 (by have:=W8.out.1.size;simp;omega) (fun j e=>by cases e;exact W8.out.1.size);replace Tj:=Zg Tj;replace Xq:=Zg Xq;clear hgrow1;have hown2:Hid (w1.ownsRow W2.heap.size 3 1 v' n' (((l.take n').map Xt).flatten)):=Zg (by have h:=Tj.out;unfold XJ at h;rwa [YA.out]at h);go_wp2_with (at_builtin;refine OC v' n' YA.out (hown2.out.alloc _) (by have:=Xq.out.size;simp;omega) (by have:=YA.out;have:=hn7.out;omega) x w1.heap.size ((Z4 w1 _ _ _ 0 rfl).trans rfl) rfl _ _ rfl rfl rfl ?_);intro v2 w2 hown3 hgrow2;have hE12:Hid (LW W2 v2 (l.take n'++[x]) w2):=Zg ⟨(Xq.out.alloc Xq.out.size _).grown hgrow2 (by have:=Xq.out.size;simp;omega) (fun j e=>(hown2.out.lt j e).1),hown3,fun y hy=>by
       rcases List.mem_append.1 hy with h|h
       ·exact W8.out.2.2 y (List.mem_of_mem_take h)
       ·obtain rfl:=List.mem_singleton.1 h
        exact hx1⟩
      clear hown3 hgrow2 hown2 Tj Xq W8;go_wp2;go_roundw
      case rel=>exact⟨k+1,l.take n'++[x],Sx.out.1,Sx.out.2,congrArg (Zt .i64) (by omega),hE12,VF⟩
      case measure=>exact Wg k cn Zz
    ·have YP:(x !=nw)=true:=by simpa using hw
     have hne2:(x==nw)=false:=by simpa using hw
     have VF:=hQ.out;rw[show Ui (l.take n') ⟨op,nw,na,nb,⟨vh,vl⟩⟩ x=none from if_neg (fun h=>hw h.1)]at VF;obtain⟨rfl,rfl⟩:=Prod.mk.inj (show ((0:Int),false)=(R1,R2) from VF);clear hQ VF hw hOK;go_wp2_with fail;refine bodyPost_ret (v:=.tuple #[.int .i64 0,.bool false]) (by simp[results,Tryz.results7,go_sem]) rfl ⟨rfl,ZS Sz.out⟩
  ·obtain rfl:k=cn:=by omega
   have X6:=hm.out;rw[Zh (by rw[hcn'.out];exact Zp _),VR]at X6;obtain⟨sp,sc,hv,W4,hsn,hss⟩:=Sc hEI.out.own;subst hv;have Y3:=Zg (UF.out.1.trans (hEI.out.below.mono UF.out.2));by_cases h1:l.length=1
   ·obtain⟨x,rfl⟩:∃x,l=[x]:=List.length_eq_one_iff.1 h1
    obtain⟨rfl,rfl⟩:=Prod.mk.inj X6;obtain⟨g,rfl,-,-,hc⟩:=VY (k:=0) (x:=x) hEI.out.own rfl;clear hm hss hsn hEI h1;simp only[List.length_cons,List.length_nil]at *;go_wp2;refine bodyPost_ret (v:=.tuple #[.int .i64 x,.bool true]) (by simp[results,Tryz.results7,go_sem]) rfl ⟨rfl,ZS Y3.out⟩
   ·obtain⟨rfl,rfl⟩:=Pf h1 X6
    obtain⟨nl,hnl⟩:=Zv l.length;rw[hnl]at h1 hlk ⊢;have e1:((nl:Int)==1)=false:=by simp;omega
    have e2:((nl:Int) !=1)=true:=by simp;omega
    have e3:¬((nl:Int)=1):=by omega
    clear hm hss hsn hEI X6 W4 hnl;go_wp2;refine bodyPost_ret (v:=.tuple #[.int .i64 0,.bool false]) (by simp[results,Tryz.results7,go_sem]) rfl ⟨rfl,ZS Y3.out⟩
theorem H1(vh vl mh ml k ah al s0 s1 w)(h0:Kp Zr w 34 #[.agg #[.int .u64 vh,.int .u64 vl],.int .i64 k] (.bool s0))(h1:Kp Zr w 34 #[.agg #[.int .u64 mh,.int .u64 ml],.int .i64 k] (.bool s1))(h2:Kp Zr w 101 #[.agg #[.int .u64 vh,.int .u64 vl],.agg #[.int .u64 mh,.int .u64 ml]] (.agg #[.int .u64 ah,.int .u64 al])) :
  Kp Zr w 57 #[.agg #[.int .u64 vh,.int .u64 vl,.int .u64 mh,.int .u64 ml],.int .i64 k] (.bool (s0&&(s1&&((ah==vh)&&(al==vl))))):=by
 intro y0;have h0:=h0.up y0;have h1:=h1.up y0;have h2:=h2.up y0;obtain⟨V,hV⟩:=Zv (plus w y0);rw[hV]at h0 h1 h2 ⊢;clear hV;obtain⟨R,hR⟩:=Zv (s0&&(s1&&((ah==vh)&&(al==vl))));rw[hR];cases s0
 case false =>
  have hF:=Zg (show (false)=R by first|exact hR|(rw[←hR];simp));clear hR;clear h1 h2;have h0:=Zg h0;go_enter func57,ntmps57;go_wp2;obtain⟨W,yy,hW,⟨z,hz⟩,cb0⟩:=Ya V _ 132;rw[hW];have c0_0:=cb0 0 _ rfl;have c0_1:=cb0 1 _ rfl;have c0_2:=cb0 2 _ rfl;have c0_3:=cb0 3 _ rfl;have q0c:=Zg (Zy hz h0.out);have Zw:=Zg hz;clear hW hz cb0;refine ZP (by kernel_rfl) (by kernel_rfl) ?_;repeat (go_big_quiet_step (first|(with_reducible exact q0c.out _)))
  refine wpQuiet_nil ?_;rintro _ ⟨y1,rfl⟩;go_wp2;go_ret;exact⟨congrArg (fun z=>Zf (Zs z)) hF.out,by rw[Zw.out,Zx];exact⟨_,rfl⟩⟩
 case true =>
  cases s1
  case false =>
   have hF:=Zg (show (false)=R by first|exact hR|(rw[←hR];simp));clear hR;clear h2;have h0:=Zg h0;have h1:=Zg h1;go_enter func57,ntmps57;go_wp2;obtain⟨W,yy,hW,⟨z,hz⟩,cb0⟩:=Ya V _ 132;rw[hW];have c0_0:=cb0 0 _ rfl;have c0_1:=cb0 1 _ rfl;have c0_2:=cb0 2 _ rfl;have c0_3:=cb0 3 _ rfl;have q0c:=Zg (Zy hz h0.out);have q1c:=Zg (Zy hz h1.out);have Zw:=Zg hz;clear hW hz cb0;refine ZP (by kernel_rfl) (by kernel_rfl) ?_;repeat (go_big_quiet_step (first|(with_reducible exact q0c.out _)|(with_reducible exact q1c.out _)))
   refine wpQuiet_nil ?_;rintro _ ⟨y1,rfl⟩;go_wp2;go_ret;exact⟨congrArg (fun z=>Zf (Zs z)) hF.out,by rw[Zw.out,Zx];exact⟨_,rfl⟩⟩
  case true =>
   by_cases q1:(ah==vh)=true
   case neg =>
    have q1:(ah==vh)=false:=by simpa using q1
    have hF:=Zg (show (false)=R by first|exact hR|(rw[←hR];simp[q1]));clear hR;have h0:=Zg h0;have h1:=Zg h1;have h2:=Zg h2;go_enter func57,ntmps57;go_wp2;obtain⟨W,yy,hW,⟨z,hz⟩,cb0⟩:=Ya V _ 132;rw[hW];have c0_0:=cb0 0 _ rfl;have c0_1:=cb0 1 _ rfl;have c0_2:=cb0 2 _ rfl;have c0_3:=cb0 3 _ rfl;have q0c:=Zg (Zy hz h0.out);have q1c:=Zg (Zy hz h1.out);have q2c:=Zg (Zy hz h2.out);have Zw:=Zg hz;clear hW hz cb0;refine ZP (by kernel_rfl) (by kernel_rfl) ?_;repeat (go_big_quiet_step (first|(with_reducible exact q0c.out _)|(with_reducible exact q1c.out _)|(with_reducible exact q2c.out _)))
    refine wpQuiet_nil ?_;rintro _ ⟨y1,rfl⟩;go_wp2;go_ret;exact⟨congrArg (fun z=>Zf (Zs z)) hF.out,by rw[Zw.out,Zx];exact⟨_,rfl⟩⟩
   case pos =>
    by_cases q2:(al==vl)=true
    case neg =>
     have q2:(al==vl)=false:=by simpa using q2
     have hF:=Zg (show (false)=R by first|exact hR|(rw[←hR];simp[q1,q2]));clear hR;have h0:=Zg h0;have h1:=Zg h1;have h2:=Zg h2;go_enter func57,ntmps57;go_wp2;obtain⟨W,yy,hW,⟨z,hz⟩,cb0⟩:=Ya V _ 132;rw[hW];have c0_0:=cb0 0 _ rfl;have c0_1:=cb0 1 _ rfl;have c0_2:=cb0 2 _ rfl;have c0_3:=cb0 3 _ rfl;have q0c:=Zg (Zy hz h0.out);have q1c:=Zg (Zy hz h1.out);have q2c:=Zg (Zy hz h2.out);have Zw:=Zg hz;clear hW hz cb0;refine ZP (by kernel_rfl) (by kernel_rfl) ?_;repeat (go_big_quiet_step (first|(with_reducible exact q0c.out _)|(with_reducible exact q1c.out _)|(with_reducible exact q2c.out _)))
     refine wpQuiet_nil ?_;rintro _ ⟨y1,rfl⟩;go_wp2;go_ret;exact⟨congrArg (fun z=>Zf (Zs z)) hF.out,by rw[Zw.out,Zx];exact⟨_,rfl⟩⟩
    case pos =>
     have hF:=Zg (show (true)=R by first|exact hR|(rw[←hR];simp[q1,q2]));clear hR;have h0:=Zg h0;have h1:=Zg h1;have h2:=Zg h2;go_enter func57,ntmps57;go_wp2;obtain⟨W,yy,hW,⟨z,hz⟩,cb0⟩:=Ya V _ 132;rw[hW];have c0_0:=cb0 0 _ rfl;have c0_1:=cb0 1 _ rfl;have c0_2:=cb0 2 _ rfl;have c0_3:=cb0 3 _ rfl;have q0c:=Zg (Zy hz h0.out);have q1c:=Zg (Zy hz h1.out);have q2c:=Zg (Zy hz h2.out);have Zw:=Zg hz;clear hW hz cb0;refine ZP (by kernel_rfl) (by kernel_rfl) ?_;repeat (go_big_quiet_step (first|(with_reducible exact q0c.out _)|(with_reducible exact q1c.out _)|(with_reducible exact q2c.out _)))
     refine wpQuiet_nil ?_;rintro _ ⟨y1,rfl⟩;go_wp2;go_ret;exact⟨congrArg (fun z=>Zf (Zs z)) hF.out,by rw[Zw.out,Zx];exact⟨_,rfl⟩⟩
end Go.Proofs.YtheaknidbcbneaaGreat

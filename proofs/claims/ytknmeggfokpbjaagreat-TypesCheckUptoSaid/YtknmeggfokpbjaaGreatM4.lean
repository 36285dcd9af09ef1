/-
  WHAT IS PROVED HERE: a part of the proof (made narrower and merged by program; the parts: Za Zb GA Fa Fb Ff Sf GE).
-/
import Derived.Shelf.Abstract
import Derived.Test.YtknmeggfokpbjaaGreatM3
set_option maxRecDepth 100000
set_option maxHeartbeats 8000000
set_option linter.all false
namespace Go.Proofs.YtknmeggfokpbjaaGreat
open Z
open Go.RowKit Go.Proofs.Tryz
open Below renaming refl→Zb
open Ending renaming returned→Zd
open Lib renaming hid→Zf
open List renaming getElem?_eq_some_iff→Zi,length_cons→Zk,map_cons→Zm,mem_of_getElem?→Zo
open Nat renaming le_refl→Zt,zero_le→Zw
open Go.Proofs.Tryz renaming prog→Zx
open Value renaming bool→Zy,int→Zz
open Go.RowKit
def YL{α:Type}(q:α→Bool):List α→Nat→Int
 | [],_=>-1
 | x :: l,k=>if q x then (k:Int) else YL q l (k+1)
theorem P8{α:Type}(q:α→Bool)(l:List α)(k:Nat)(x:α)(hx:l[k]?=some x):YL q (l.drop k) k=if q x then (k:Int) else YL q (l.drop (k+1)) (k+1):=by
 obtain⟨h1,rfl⟩:=Zi.1 hx;rw[List.drop_eq_getElem_cons h1,YL]
theorem lQ{α:Type}(cells:α→List Value)(hC:∀x,LL (cells x))(may:α→Bool)(g:FuncId)(first caps:Array Value)(K:α→Prop)(w:World)(A:Sl α)(hA:A.In w 2 cells K)(hl:A.l.length≤1048576)(Xb:∀args w,(callFunc g args).run Zx w=.ok (.enter g args) w)(hf:∀x∈A.l,Kp Zx w g (first.push (.agg (cells x).toArray)++caps) (.bool (may x))) :
  Kp Zx w 151 #[A.v,.func (.func g) first caps] (.int .i64 (YL may A.l 0)):=by
 open Z renaming aox→Uz in exact UH
theorem lP{α:Type}(cells:α→List Value)(hC:∀x,LK (cells x))(may:α→Bool)(g:FuncId)(first caps:Array Value)(K:α→Prop)(w:World)(A:Sl α)(hA:A.In w 2 cells K)(hl:A.l.length≤1048576)(Xb:∀args w,(callFunc g args).run Zx w=.ok (.enter g args) w)(hf:∀x∈A.l,Kp Zx w g (first.push (.agg (cells x).toArray)++caps) (.bool (may x))) :
  Kp Zx w 198 #[A.v,.func (.func g) first caps] (.int .i64 (YL may A.l 0)):=by
 open Z renaming aoy→Uz in exact UH
theorem lR{α:Type}(cells:α→List Value)(hC:∀x,LM (cells x))(may:α→Bool)(g:FuncId)(first caps:Array Value)(K:α→Prop)(w:World)(A:Sl α)(hA:A.In w 5 cells K)(hl:A.l.length≤1048576)(Xb:∀args w,(callFunc g args).run Zx w=.ok (.enter g args) w)(hf:∀x∈A.l,Kp Zx w g (first.push (.agg (cells x).toArray)++caps) (.bool (may x))) :
  Kp Zx w 149 #[A.v,.func (.func g) first caps] (.int .i64 (YL may A.l 0)):=by
 open Z renaming aoz→Uz in exact UH
theorem lN{α:Type}(cells:α→List Value)(hC:∀x,LJ (cells x))(may:α→Bool)(g:FuncId)(first caps:Array Value)(K:α→Prop)(w:World)(A:Sl α)(hA:A.In w 3 cells K)(hl:A.l.length≤1048576)(Xb:∀args w,(callFunc g args).run Zx w=.ok (.enter g args) w)(hf:∀x∈A.l,Kp Zx w g (first.push (.agg (cells x).toArray)++caps) (.bool (may x))) :
  Kp Zx w 153 #[A.v,.func (.func g) first caps] (.int .i64 (YL may A.l 0)):=by
 open Z renaming aoA→Uz in exact UH
theorem lS{α:Type}(cells:α→List Value)(hC:∀x,LN (cells x))(may:α→Bool)(g:FuncId)(first caps:Array Value)(K:α→Prop)(w:World)(A:Sl α)(hA:A.In w 5 cells K)(hl:A.l.length≤1048576)(Xb:∀args w,(callFunc g args).run Zx w=.ok (.enter g args) w)(hf:∀x∈A.l,Kp Zx w g (first.push (.agg (cells x).toArray)++caps) (.bool (may x))) :
  Kp Zx w 156 #[A.v,.func (.func g) first caps] (.int .i64 (YL may A.l 0)):=by
 open Z renaming aoB→Uz in exact UH
theorem lO{α:Type}(cells:α→List Value)(hC:∀x,J3 (cells x))(may:α→Bool)(g:FuncId)(first caps:Array Value)(K:α→Prop)(w:World)(A:Sl α)(hA:A.In w 9 cells K)(hl:A.l.length≤1048576)(Xb:∀args w,(callFunc g args).run Zx w=.ok (.enter g args) w)(hf:∀x∈A.l,Kp Zx w g (first.push (.agg (cells x).toArray)++caps) (.bool (may x))) :
  Kp Zx w 160 #[A.v,.func (.func g) first caps] (.int .i64 (YL may A.l 0)):=by
 open Z renaming aoC→Uz in exact UH
theorem lT(may:ByteArray→Bool)(g:FuncId)(first caps:Array Value)(K:ByteArray→Prop)(w:World)(A:Sl ByteArray)(hA:A.In w 1 V1 K)(hl:A.l.length≤1048576)(Xb:∀args w,(callFunc g args).run Zx w=.ok (.enter g args) w)(hf:∀x∈A.l,Kp Zx w g (first.push (.string x)++caps) (.bool (may x))) :
  Kp Zx w 200 #[A.v,.func (.func g) first caps] (.int .i64 (YL may A.l 0)):=by
 open Z renaming aoD→Uz in exact UH
theorem ik(B:Nat)(nm a0 a1p a1n a1c)(w:World)(hb:w.cell? ⟨B,0,none⟩=some (.string nm)):Kp Zx w 152 #[.agg #[.string a0,.slice a1p a1n a1c],.pointer (some ⟨B,0,none⟩)] (.bool (a0.toList==nm.toList)):=by
 open Z renaming aeW→Lg in exact LY
theorem ij(B:Nat)(nm a0 a1)(w:World)(hb:w.cell? ⟨B,0,none⟩=some (.string nm)):Kp Zx w 199 #[.agg #[.string a0,.int .i64 a1],.pointer (some ⟨B,0,none⟩)] (.bool (a0.toList==nm.toList)):=by
 open Z renaming aeX→Lg in exact LY
theorem il(B:Nat)(nm a0 a1p a1n a1c a2 a3p a3n a3c a4p a4n a4c)(w:World)(hb:w.cell? ⟨B,0,none⟩=some (.string nm)):Kp Zx w 150 #[.agg #[.string a0,.slice a1p a1n a1c,.string a2,.slice a3p a3n a3c,.slice a4p a4n a4c],.pointer (some ⟨B,0,none⟩)] (.bool (a0.toList==nm.toList)):=by
 open Z renaming aeY→Lg in exact LY
theorem ii(B:Nat)(nm a0 a1p a1n a1c a2p a2n a2c)(w:World)(hb:w.cell? ⟨B,0,none⟩=some (.string nm)):Kp Zx w 154 #[.agg #[.string a0,.slice a1p a1n a1c,.slice a2p a2n a2c],.pointer (some ⟨B,0,none⟩)] (.bool (a0.toList==nm.toList)):=by
 open Z renaming aeZ→Lg in exact LY
theorem iq(B:Nat)(nm a0 a1p a1n a1c a2p a2n a2c a3 a4p a4n a4c)(w:World)(hb:w.cell? ⟨B,0,none⟩=some (.string nm)):Kp Zx w 157 #[.agg #[.string a0,.slice a1p a1n a1c,.slice a2p a2n a2c,.string a3,.slice a4p a4n a4c],.pointer (some ⟨B,0,none⟩)] (.bool (a0.toList==nm.toList)):=by
 open Z renaming ae0→Lg in exact LY
theorem iu(B:Nat)(nm s)(w:World)(hb:w.cell? ⟨B,0,none⟩=some (.string nm)):Kp Zx w 201 #[.string s,.pointer (some ⟨B,0,none⟩)] (.bool (s.toList==nm.toList)):=by
 intro y0;have hb:=ZS hb y0;obtain⟨V,hV⟩:=ZB (plus w y0);rw[hV]at hb ⊢;clear hV;go_enter func201,ntmps201;exact EV
theorem lF(a0 a1 a2 a3 a4 a5 a6 a7 a8p a8n a8c b0 b1 b2 b3 b4 b5 b6 b7 b8p b8n b8c)(c:Nat)(s8)(w:World)(hc:w.cell? ⟨c,0,none⟩=some (.func (.func 217) #[] #[.pointer (some ⟨c,0,none⟩)]))(h8:Kp Zx w 218 #[.slice a8p a8n a8c,.slice b8p b8n b8c,.func (.func 217) #[] #[.pointer (some ⟨c,0,none⟩)]] (.bool s8)) :
  Kp Zx w 217 #[.agg #[.int .u8 a0,.int .i64 a1,.int .u64 a2,.int .u64 a3,.string a4,.string a5,.int .i64 a6,.int .i64 a7,.slice a8p a8n a8c],.agg #[.int .u8 b0,.int .i64 b1,.int .u64 b2,.int .u64 b3,.string b4,.string b5,.int .i64 b6,.int .i64 b7,.slice b8p b8n b8c],.pointer (some ⟨c,0,none⟩)] (.bool ((a0==b0)&&((a1==b1)&&((a2==b2)&&((a3==b3)&&((a4.toList==b4.toList)&&((a5.toList==b5.toList)&&((a6==b6)&&((a7==b7)&&s8))))))))):=by
 intro y0;have h8:=h8.up y0;have hc:=ZS hc y0;obtain⟨V,hV⟩:=ZB (plus w y0);rw[hV]at h8 hc ⊢;clear hV;have hc2:=fun a b=>YG (YG hc a) b;by_cases q0:a0=b0
 case neg =>
  have hF:=Zf (show false=((a0==b0)&&((a1==b1)&&((a2==b2)&&((a3==b3)&&((a4.toList==b4.toList)&&((a5.toList==b5.toList)&&((a6==b6)&&((a7==b7)&&(s8))))))))) by simp[q0]);exact PJ
 subst q0;by_cases q1:a1=b1
 case neg =>
  have hF:=Zf (show false=((a0==a0)&&((a1==b1)&&((a2==b2)&&((a3==b3)&&((a4.toList==b4.toList)&&((a5.toList==b5.toList)&&((a6==b6)&&((a7==b7)&&(s8))))))))) by simp[q1]);exact PJ
 subst q1;by_cases q2:a2=b2
 case neg =>
  have hF:=Zf (show false=((a0==a0)&&((a1==a1)&&((a2==b2)&&((a3==b3)&&((a4.toList==b4.toList)&&((a5.toList==b5.toList)&&((a6==b6)&&((a7==b7)&&(s8))))))))) by simp[q2]);exact PJ
 subst q2;by_cases q3:a3=b3
 case neg =>
  have hF:=Zf (show false=((a0==a0)&&((a1==a1)&&((a2==a2)&&((a3==b3)&&((a4.toList==b4.toList)&&((a5.toList==b5.toList)&&((a6==b6)&&((a7==b7)&&(s8))))))))) by simp[q3]);exact PJ
 subst q3;by_cases q4:(a4.toList==b4.toList)=true
 case neg =>
  have q4:(a4.toList==b4.toList)=false:=atf;have hF:=Zf (show false=((a0==a0)&&((a1==a1)&&((a2==a2)&&((a3==a3)&&((a4.toList==b4.toList)&&((a5.toList==b5.toList)&&((a6==b6)&&((a7==b7)&&(s8))))))))) by simp[q4]);exact PJ
 by_cases q5:(a5.toList==b5.toList)=true
 case neg =>
  have q5:(a5.toList==b5.toList)=false:=atn;have hF:=Zf (show false=((a0==a0)&&((a1==a1)&&((a2==a2)&&((a3==a3)&&((a4.toList==b4.toList)&&((a5.toList==b5.toList)&&((a6==b6)&&((a7==b7)&&(s8))))))))) by simp[q5,q4]);exact PJ
 by_cases q6:a6=b6
 case neg =>
  have hF:=Zf (show false=((a0==a0)&&((a1==a1)&&((a2==a2)&&((a3==a3)&&((a4.toList==b4.toList)&&((a5.toList==b5.toList)&&((a6==b6)&&((a7==b7)&&(s8))))))))) by simp[q6,q4,q5]);exact PJ
 subst q6;by_cases q7:a7=b7
 case neg =>
  have hF:=Zf (show false=((a0==a0)&&((a1==a1)&&((a2==a2)&&((a3==a3)&&((a4.toList==b4.toList)&&((a5.toList==b5.toList)&&((a6==a6)&&((a7==b7)&&(s8))))))))) by simp[q7,q4,q5]);exact PJ
 subst q7;cases s8
 case false =>
  have hF:=Zf (show false=((a0==a0)&&((a1==a1)&&((a2==a2)&&((a3==a3)&&((a4.toList==b4.toList)&&((a5.toList==b5.toList)&&((a6==a6)&&((a7==a7)&&(false))))))))) by simp[q4,q5]);exact tC
 have hF:=Zf (show true=((a0==a0)&&((a1==a1)&&((a2==a2)&&((a3==a3)&&((a4.toList==b4.toList)&&((a5.toList==b5.toList)&&((a6==a6)&&((a7==a7)&&(true))))))))) by simp[q4,q5]);exact tC
theorem lD{α:Type}(cells:α→List Value)(hC:∀x,J3 (cells x))(f:α→α→Bool)(g:FuncId)(caps:Array Value)(K:α→Prop)(w:World)(A B:Sl α)(hA:A.In w 9 cells K)(hB:B.In w 9 cells K)(hl:A.l.length≤1048576)(Xb:∀args w,(callFunc g args).run Zx w=.ok (.enter g args) w)(hf:∀x∈A.l,∀y∈B.l,Kp Zx w g (#[.agg (cells x).toArray,.agg (cells y).toArray]++caps) (.bool (f x y))) :
  Kp Zx w 218 #[A.v,B.v,.func (.func g) #[] caps] (.bool (Vb f A.l B.l)):=by
 intro y0;obtain⟨p,cap,l⟩:=A;obtain⟨q,cbp,r⟩:=B;simp only[Sl.v]at hl hf ⊢;obtain⟨n,hn⟩:=ZB l.length;obtain⟨m,hm⟩:=ZB r.length;have hA:=hA.row.plus y0;have hB:=hB.row.plus y0;have hf:=fun x hx y hy=>((hf x hx y hy).up y0).pure;obtain⟨W,hW⟩:=ZB (plus w y0);rw[hW]at hA hB ⊢;simp only[hW]at hf;rw[hn]at hl;clear hW;by_cases YN:n=m
 case neg =>
  have hF:=Zf (show false=Vb f l r from (CZ f l r asB).symm);rw[hn,hm];clear hA hB hl hn hm hf;go_enter func218,ntmps218;exact UG
 subst YN;rw[hn,hm];obtain⟨R,hR⟩:=ZB (Vb f l r);rw[hR];have h0:Vb f (l.drop 0) (r.drop 0)=R:=hR;have YV:=Zf hA;have XI:=Zf hB;have ZO:=Zf hn;have UR:=Zf hm;have Yt:=Zf hl;have YM:=Zf h0;have Wi:=Zf hf;have YY:=Zf hC;clear hA hB hl hn hm hR h0 hf hC;go_enter func218,ntmps218;go_wp2;go_loopw [7,8,9,17] (fun _ _ _ iv wr=>∃k:Nat,k≤n∧iv=.int .i64 (k:Int)∧Hid (Vb f (l.drop k) (r.drop k)=R)∧∃y,wr=plus W y) (fun _ _ _ iv _=>n-(intOf iv).toNat)
 case atStart=>exact⟨0,Zw _,rfl,YM,⟨#[],W.drawn⟩,(Yk W).symm⟩
 case round =>
  obtain⟨k,hk,rfl,hs,y,rfl⟩:=hrel;by_cases ZC:k<n
  ·obtain⟨a,ha⟩:=Yq l k asG
   obtain⟨b,hb⟩:=Yq r k (by rw[UR.out];exact ZC);obtain⟨pa,rfl,hc⟩:=YV.out k a ha;obtain⟨pb,rfl,hd⟩:=XI.out k b hb;have q1:=Wi.out a (Zo ha) b (Zo hb);have ZQ:(f a b&&Vb f (l.drop (k+1)) (r.drop (k+1)))=R:=by rw[←lC f l r k a b ha hb];exact hs.out
   obtain⟨Z,hZ⟩:=ZB (f a b);rw[hZ]at q1 ZQ;obtain⟨c0,c1,c2,c3,c4,c5,c6,c7,c8p,c8n,c8c,ea⟩:=YY.out a;obtain⟨e0,e1,e2,e3,e4,e5,e6,e7,e8p,e8n,e8c,eb⟩:=YY.out b;rw[ea,eb]at q1;open Z renaming aqd→zA in exact pI
  ·obtain rfl:k=n:=by omega
   have ZP:=Zf (show true=R by
    rw[←hs.out,List.drop_of_length_le asV,List.drop_of_length_le (by rw[UR.out];exact Zt _),Vb])
   exact si
theorem Em(s:Hr):1≤s.sz:=atg
theorem Eo(s:Sa):1≤s.sz:=by unfold Sa.sz;omega
theorem Ek(s:Ac):1≤s.sz:=ath
theorem Ep(s:Ta):1≤s.sz:=by unfold Ta.sz;omega
theorem El(s:Ca):1≤s.sz:=by unfold Ca.sz;omega
theorem En(s:Ke):1≤s.sz:=by unfold Ke.sz;omega
theorem abn(a b c:Nat)(h:a+b+c≤1048576):wrap64 (wrap64 ((a:Int)+b)+c)=((a+b+c:Nat):Int):=by
 rw[Wv ((a:Int)+b) asB,Wv _ asB];omega
theorem xR(t h f u:Nat)(hu:u=t+(1+h+f))(hb:u≤1048576):wrap64 (wrap64 (wrap64 ((t:Int)+1)+h)+f)=(u:Int):=by
 rw[Wv ((t:Int)+1) asB,Wv ((t:Int)+1+h) asB,Wv _ asB];omega
theorem xQ(t a b c u:Nat)(hu:u=t+1+a+b+c)(hb:u≤1048576):wrap64 (wrap64 (wrap64 (wrap64 ((t:Int)+1)+a)+b)+c)=(u:Int):=by
 rw[Wv ((t:Int)+1) asB,Wv ((t:Int)+1+a) asB,Wv ((t:Int)+1+a+b) asB,Wv _ asB];omega
theorem abj(t a b c d u:Nat)(hu:u=t+1+a+b+c+d)(hb:u≤1048576):wrap64 (wrap64 (wrap64 (wrap64 (wrap64 ((t:Int)+1)+a)+b)+c)+d)=(u:Int):=by
 rw[Wv ((t:Int)+1) asB,Wv ((t:Int)+1+a) asB,Wv ((t:Int)+1+a+b) asB,Wv ((t:Int)+1+a+b+c) asB,Wv _ asB];omega
theorem abk(t a u:Nat)(hu:u=t+(1+a))(hb:u≤1048576):wrap64 (wrap64 ((t:Int)+1)+a)=(u:Int):=by
 rw[Wv ((t:Int)+1) asB,Wv _ asB];omega
theorem abl(t a u:Nat)(hu:u=t+a)(hb:u≤1048576):wrap64 ((t:Int)+a)=(u:Int):=by
 rw[Wv _ asB];omega
theorem Ei{α:Type}(f:α→Nat)(hf:∀x,f x=1):∀l:List α,(l.map f).sum=l.length
 | []=>rfl
 | a :: l=>by simp only[Zm,List.sum_cons,Zk,hf,Ei f hf l];omega
theorem dJ(p:Pr)(w:World)(ZF:p.In w)(hb:p.sz≤1048576):Wo Zx w 5 #[.agg p.cells.toArray] (.bool (decide (6000<p.sz))):=by
 intro y0;obtain⟨Z,hZ⟩:=ZB p.sz;rw[hZ]at hb ⊢;obtain⟨⟨hp,hc,hl⟩,⟨mp,mc,ml⟩,⟨sp,sc,sl⟩,⟨ap,ac,al⟩,⟨tp,tc,tl⟩,⟨cp,cc,cl⟩,⟨ep,ec,el⟩⟩:=p;obtain⟨ih,im,is,ia,it,ic,ie⟩:=ZF;simp only[Pr.sz,Sl.size]at ih im is ia it ic ie hZ;obtain⟨H,hH⟩:=ZB ((hl.map Hr.sz).sum);obtain⟨M,hM⟩:=ZB ((ml.map Fd.sz).sum);obtain⟨S,hS⟩:=ZB ((sl.map Sa.sz).sum);obtain⟨A,hA⟩:=ZB ((al.map Ac.sz).sum);obtain⟨T,hT⟩:=ZB ((tl.map Ta.sz).sum);obtain⟨C,hC⟩:=ZB ((cl.map St.sz).sum);obtain⟨E,hE⟩:=ZB ((el.map Y1).sum);rw[hH,hM,hS,hA,hT,hC,hE]at hZ;show Calls Zx 5 #[.agg #[.slice hp hl.length hc,.slice mp ml.length mc,.slice sp sl.length sc,.slice ap al.length ac,.slice tp tl.length tc,.slice cp cl.length cc,.slice ep el.length ec]] (plus w y0) _
 obtain⟨nh,hnh⟩:=ZB hl.length;obtain⟨ns,hns⟩:=ZB sl.length;obtain⟨na,hna⟩:=ZB al.length;obtain⟨nt,hnt⟩:=ZB tl.length;have bh:nh≤1048576:=by have:=XM Hr.sz Em hl;omega
 have bs:ns≤1048576:=by have:=XM Sa.sz Eo sl;omega
 have ba:na≤1048576:=by have:=XM Ac.sz Ek al;omega
 have bt:nt≤1048576:=by have:=XM Ta.sz Ep tl;omega
 rw[hnh,hns,hna,hnt];have ih':=Zf ih;have is':=Zf is;have ia':=Zf ia;have it':=Zf it;have iz':=Zf (And.intro im (And.intro ic ie));have Yi:=Zf hb;have hZ':=Zf hZ;have hH':=Zf hH;have Vn:=Zf hS;have YV:=Zf hA;have WB:=Zf hT;have ZN:=Zf (And.intro hM (And.intro hC hE));have hnh':=Zf hnh;have hns':=Zf hns;have hna':=Zf hna;have hnt':=Zf hnt;have bh':=Zf bh;have bs':=Zf bs;have ba':=Zf ba;have bt':=Zf bt;have n0:=Zf (abn M C E asB);clear ih im is ia it ic ie hb hZ hH hM hS hA hT hC hE hnh hns hna hnt bh bs ba bt;go_enter func5,ntmps5;go_wp2_with fail;obtain⟨W,hW,hB,hs,ca,fa⟩:=WS (plus w y0) _ 30;obtain⟨z,hz⟩:=Yy hB;rw[ZD]at hz;rw[←hW];have c0:=ca 0 (some (.slice hp nh hc)) rfl;have c1:=ca 1 (some (.slice mp ml.length mc)) rfl;have c2:=ca 2 (some (.slice sp ns sc)) rfl;have c3:=ca 3 (some (.slice ap na ac)) rfl;have c4:=ca 4 (some (.slice tp nt tc)) rfl;have c5:=ca 5 (some (.slice cp cl.length cc)) rfl;have c6:=ca 6 (some (.slice ep el.length ec)) rfl;have q1:=FX ⟨mp,mc,ml⟩ W (hz▸iz'.out.1.plus (fun _ a=>a.plus _) _) (by have h1:=ZN.out.1;have h2:=Yi.out;have h3:=hZ'.out;show (ml.map Fd.sz).sum≤_;omega);have q2:=xK ⟨cp,cc,cl⟩ W (hz▸iz'.out.2.1.plus (fun _ a=>a.plus _) _) (by have h1:=ZN.out.2.1;have h2:=Yi.out;have h3:=hZ'.out;show (cl.map St.sz).sum≤_;omega);have q3:=yP ⟨ep,ec,el⟩ W (hz▸iz'.out.2.2.plus (fun _ a=>a) _) (by have h1:=ZN.out.2.2;have h2:=Yi.out;have h3:=hZ'.out;show (el.map Y1).sum≤_;omega);simp only[Sl.size,Sl.v]at q1 q2 q3;rw[ZN.out.1]at q1;rw[ZN.out.2.1]at q2;rw[ZN.out.2.2]at q3;have q1':=Zf q1;have q2':=Zf q2;have q3':=Zf q3;have Yn:=Zf hz;have Uq:=Zf hW;clear q1 q2 q3 hz hW ca fa hB;refine EG asC asC ?_;repeat (go_big_quiet_step (first|(with_reducible exact q1'.out _)|(with_reducible exact q2'.out _)|(with_reducible exact q3'.out _)))
 refine wpQuiet_nil ?_;rintro _ ⟨y,rfl⟩;rw[n0.out];clear q1' q2' q3';go_wp2;obtain⟨B1,hB1⟩:=ZB (M+C+E);rw[hB1];have hB1':=Zf hB1;clear hB1 n0 iz' ZN;have jh:Sl.In W 2 Hr.cells (Hr.In W) ⟨hp,hc,hl⟩:=by rw[Yn.out];exact ih'.out.plus (fun _ a=>a.plus _) _
 have js:Sl.In W 5 Sa.cells (Sa.In W) ⟨sp,sc,sl⟩:=by rw[Yn.out];exact is'.out.plus (fun _ a=>a.plus _) _
 have ja:Sl.In W 3 Ac.cells (Ac.In W) ⟨ap,ac,al⟩:=by rw[Yn.out];exact ia'.out.plus (fun _ a=>a.plus _) _
 have jt:Sl.In W 5 Ta.cells (Ta.In W) ⟨tp,tc,tl⟩:=by rw[Yn.out];exact it'.out.plus (fun _ a=>a.plus _) _
 have jh':=Zf jh;have js':=Zf js;have ja':=Zf ja;have jt':=Zf jt;clear jh js ja jt ih' is' ia' it' c1 c5 c6;go_loopw [3,4] (fun nv iv wr=>∃k:Nat,k≤nh∧iv=.int .i64 (k:Int)∧nv=.int .i64 (YT Hr.sz B1 hl k:Int)∧∃y,wr=plus W y) (fun _ iv _=>nh-(intOf iv).toNat)
 case atStart=>exact⟨0,Zw _,rfl,congrArg (Zz .i64) as0,y,rfl⟩
 case round =>
  obtain⟨k,hk,rfl,rfl,y,rfl⟩:=hrel;by_cases ZC:k<nh
  ·obtain⟨x,hx⟩:=Yq hl k (by rw[hnh'.out];exact ZC)
   obtain⟨a,rfl,hc⟩:=jh'.out.row k x hx;have a3:=R4 Hr.sz B1 hl k x hx;have a4:=RZ Hr.sz B1 hl (k+1);have hxi:=jh'.out.kids x (Zo hx);obtain⟨nm,⟨fp,fc,fl⟩⟩:=x;obtain⟨_,hfi⟩:=hxi;have a5:Hr.sz ⟨nm,⟨fp,fc,fl⟩⟩=1+nm.size+(fl.map Fd.sz).sum:=rfl;have b0:YT Hr.sz B1 hl (k+1)≤1048576:=by have h1:=hH'.out;have h2:=Yi.out;have h3:=hZ'.out;have h4:=hB1'.out;omega
   have q1:=FX ⟨fp,fc,fl⟩ W hfi (by show (fl.map Fd.sz).sum≤_;omega);simp only[Sl.size,Sl.v]at q1;obtain⟨F,hF⟩:=ZB ((fl.map Fd.sz).sum);rw[hF]at q1 a5;have d0:=fun y=>(hc.plus y).c0 _ rfl;have d1:=fun y=>(hc.plus y).cs 0 _ rfl;simp only[Sl.v]at d0 d1;have a6:=Zf (Y7 k nh ZC bh'.out);have a7:=Zf (xR (YT Hr.sz B1 hl k) nm.size F (YT Hr.sz B1 hl (k+1)) (by rw[a3,a5]) b0);have q1':=Zf q1;clear q1 hF a3 a4 a5 b0 hfi hc hx;go_wp2;refine Wz asC asC ?_;repeat (go_big_quiet_step (first|(with_reducible exact q1'.out _)))
   refine wpQuiet_nil ?_;rintro _ ⟨y1,rfl⟩;go_wp2;go_roundw
   case rel=>exact⟨k+1,ZC,congrArg (Zz .i64) a6.out,congrArg (Zz .i64) a7.out,y1,rfl⟩
   case measure=>exact Y9 k nh ZC a6.out
  ·obtain rfl:k=nh:=by omega
   have VJ:YT Hr.sz B1 hl k=B1+H:=by rw[RY Hr.sz _ hl k hnh'.out,hH'.out]
   rw[VJ];clear VJ ZC hk jh' hH' hnh' bh';go_wp2;clear c0;obtain⟨B2,VI⟩:=ZB (B1+H);rw[VI];have hB2':=Zf VI;clear VI;go_loopw [3,5] (fun nv iv wr=>∃k:Nat,k≤ns∧iv=.int .i64 (k:Int)∧nv=.int .i64 (YT Sa.sz B2 sl k:Int)∧∃y,wr=plus W y) (fun _ iv _=>ns-(intOf iv).toNat)
   case atStart=>exact⟨0,Zw _,rfl,congrArg (Zz .i64) as0,y,rfl⟩
   case round =>
    obtain⟨k,hk,rfl,rfl,y,rfl⟩:=hrel;by_cases ZC:k<ns
    ·obtain⟨x,hx⟩:=Yq sl k (by rw[hns'.out];exact ZC)
     obtain⟨a,rfl,hc⟩:=js'.out.row k x hx;have a3:=R4 Sa.sz B2 sl k x hx;have a4:=RZ Sa.sz B2 sl (k+1);have hxi:=js'.out.kids x (Zo hx);obtain⟨nm,⟨kp,kc,kl⟩,tX9,⟨yp,yc,yl⟩,⟨zp,zc,zl⟩⟩:=x;obtain⟨_,xt,_,xk,xc⟩:=hxi;open Z renaming ahT→Gx in exact E5
    ·obtain rfl:k=ns:=by omega
     have VJ:YT Sa.sz B2 sl k=B2+S:=by rw[RY Sa.sz _ sl k hns'.out,Vn.out]
     rw[VJ];clear VJ ZC hk js' Vn hns' bs';go_wp2;clear c2;obtain⟨B5,hB5⟩:=ZB (B2+S);rw[hB5];have hB5':=Zf hB5;clear hB5;go_loopw [3,9] (fun nv iv wr=>∃k:Nat,k≤na∧iv=.int .i64 (k:Int)∧nv=.int .i64 (YT Ac.sz B5 al k:Int)∧∃y,wr=plus W y) (fun _ iv _=>na-(intOf iv).toNat)
     case atStart=>exact⟨0,Zw _,rfl,congrArg (Zz .i64) as0,y,rfl⟩
     case round =>
      obtain⟨k,hk,rfl,rfl,y,rfl⟩:=hrel;by_cases ZC:k<na
      ·obtain⟨x,hx⟩:=Yq al k (by rw[hna'.out];exact ZC)
       obtain⟨a,rfl,hc⟩:=ja'.out.row k x hx;have a3:=R4 Ac.sz B5 al k x hx;have a4:=RZ Ac.sz B5 al (k+1);have hxi:=ja'.out.kids x (Zo hx);obtain⟨nm,⟨fp,fc,fl⟩,⟨gp,gc,gl⟩⟩:=x;obtain⟨_,hfi,hgi⟩:=hxi;have a5:Ac.sz ⟨nm,⟨fp,fc,fl⟩,⟨gp,gc,gl⟩⟩=1+nm.size+(fl.map Fd.sz).sum+(gl.map St.sz).sum:=rfl;have b0:YT Ac.sz B5 al (k+1)≤1048576:=by have h1:=YV.out;have h2:=Yi.out;have h3:=hZ'.out;have h4:=hB1'.out;have h5:=hB2'.out;have h6:=hB5'.out;omega
       have q1:=FX ⟨fp,fc,fl⟩ W hfi (by show (fl.map Fd.sz).sum≤_;omega);have q2:=xK ⟨gp,gc,gl⟩ W hgi (by show (gl.map St.sz).sum≤_;omega);simp only[Sl.size,Sl.v]at q1 q2;obtain⟨F,hF⟩:=ZB ((fl.map Fd.sz).sum);obtain⟨G,hG⟩:=ZB ((gl.map St.sz).sum);rw[hF]at q1 a5;rw[hG]at q2 a5;have d0:=fun y=>(hc.plus y).c0 _ rfl;have d1:=fun y=>(hc.plus y).cs 0 _ rfl;have d2:=fun y=>(hc.plus y).cs 1 _ rfl;simp only[Sl.v]at d0 d1 d2;have a6:=Zf (Y7 k na ZC ba'.out);have a7:=Zf (xQ (YT Ac.sz B5 al k) nm.size F G (YT Ac.sz B5 al (k+1)) (by rw[a3,a5];omega) b0);have q1':=Zf q1;have q2':=Zf q2;clear q1 q2 hF hG a3 a4 a5 b0 hfi hgi hc hx;go_wp2;refine Wz asC asC ?_;repeat (go_big_quiet_step (first|(with_reducible exact q1'.out _)|(with_reducible exact q2'.out _)))
       refine wpQuiet_nil ?_;rintro _ ⟨y1,rfl⟩;go_wp2;go_roundw
       case rel=>exact⟨k+1,ZC,congrArg (Zz .i64) a6.out,congrArg (Zz .i64) a7.out,y1,rfl⟩
       case measure=>exact Y9 k na ZC a6.out
      ·obtain rfl:k=na:=by omega
       have VJ:YT Ac.sz B5 al k=B5+A:=by rw[RY Ac.sz _ al k hna'.out,YV.out]
       rw[VJ];clear VJ ZC hk ja' YV hna' ba';go_wp2;clear c3;obtain⟨B6,hB6⟩:=ZB (B5+A);rw[hB6];have hB6':=Zf hB6;clear hB6;go_loopw [3,10] (fun nv iv wr=>∃k:Nat,k≤nt∧iv=.int .i64 (k:Int)∧nv=.int .i64 (YT Ta.sz B6 tl k:Int)∧∃y,wr=plus W y) (fun _ iv _=>nt-(intOf iv).toNat)
       case atStart=>exact⟨0,Zw _,rfl,congrArg (Zz .i64) as0,y,rfl⟩
       case round =>
        obtain⟨k,hk,rfl,rfl,y,rfl⟩:=hrel;by_cases ZC:k<nt
        ·obtain⟨x,hx⟩:=Yq tl k (by rw[hnt'.out];exact ZC)
         obtain⟨a,rfl,hc⟩:=jt'.out.row k x hx;have a3:=R4 Ta.sz B6 tl k x hx;have a4:=RZ Ta.sz B6 tl (k+1);have hxi:=jt'.out.kids x (Zo hx);obtain⟨nm,⟨yp,yc,yl⟩,⟨kp,kc,kl⟩,⟨dn,⟨gp,gc,gl⟩⟩⟩:=x;obtain⟨_,xk,xt,_⟩:=hxi;open Z renaming ahU→Gx in exact E5
        ·obtain rfl:k=nt:=by omega
         have VJ:YT Ta.sz B6 tl k=Z:=by
          have h3:=hZ'.out;have h4:=hB1'.out;have h5:=hB2'.out;have h6:=hB5'.out;have h7:=hB6'.out;rw[RY Ta.sz _ tl k hnt'.out,WB.out];omega
         rw[VJ];have hD:=Zf (show decide ((6000:Int)<(Z:Int))=decide (6000<Z) by simp;omega);clear VJ ZC hk jt' WB hnt' bt';go_wp2;go_ret;exact⟨congrArg (fun z=>Zd (Zy z)) hD.out,by rw[Yn.out,ZD];exact⟨_,rfl⟩⟩
theorem me(V:World)(A B:Obj)(v:Value)(t:TypeId):∃W,((V.alloc A).alloc B).alloc (.cells #[v] t)=W∧(∃z,W=plus V z)∧W.cell? ⟨V.heap.size+1+1,0,none⟩=some v:=by
 refine⟨_,rfl,?_,YI _ _ _ _ _ asD⟩;obtain⟨x,hx⟩:=MR V A B;rw[hx];exact Qy V x _
theorem J6(x:Ex):J3 x.cells:=⟨_,_,_,_,_,_,_,_,_,_,_,rfl⟩
theorem Ee(x:St):J4 x.cells:=⟨_,_,_,_,_,_,_,_,_,_,_,_,_,_,_,_,_,_,_,_,rfl⟩
theorem Ex.sames_eq:∀l r:List Ex,Ex.sames l r=Vb Ex.same l r
 | [],[]=>by rw[Ex.sames,Vb]
 | a :: l,b :: r=>by rw[Ex.sames,Vb,Ex.sames_eq l r]
 | [],_ :: _=>by rw[Ex.sames,Vb]
 | _ :: _,[]=>by rw[Ex.sames,Vb]
theorem St.sames_eq:∀l r:List St,St.sames l r=Vb St.same l r
 | [],[]=>by rw[St.sames,Vb]
 | a :: l,b :: r=>by rw[St.sames,Vb,St.sames_eq l r]
 | [],_ :: _=>by rw[St.sames,Vb]
 | _ :: _,[]=>by rw[St.sames,Vb]
theorem St.same_eq(a b:St):a.same b=(a.kind==b.kind&&(a.head.toList==b.head.toList&&(a.name.toList==b.name.toList&&(a.e.same b.e&&(St.sames a.thn b.thn&&St.sames a.els b.els))))):=by cases a;rw[St.same];rfl
def Gc(c:Nat):Value:=.func (.func 217) #[] #[.pointer (some ⟨c,0,none⟩)]
theorem bC:∀(a b:Ex) (w:World) (c:Nat),a.In w→b.In w→a.wt≤1048576→w.cell? ⟨c,0,none⟩=some (Gc c)→Kp Zx w 217 #[a.val,b.val,.pointer (some ⟨c,0,none⟩)] (.bool (a.same b)):=by
 intro a;induction a using Ex.ind with
 | _ a ih =>
 intro b w c ha hb wa hc;have h1:=ha;have h2:=hb;obtain⟨_,_,_,_,_,_,_,l1,c1,r1,ZL⟩:=h1;obtain⟨_,_,_,_,_,_,_,l2,c2,r2,ZT⟩:=h2;have e1:=Ex.wt_eq a;have hl:a.args.length≤1048576:=by have:=XM Ex.wt Ex.wt_pos a.args;omega
 have hE:=lD Ex.cells J6 Ex.same 217 #[.pointer (some ⟨c,0,none⟩)] (Ex.In w) w ⟨a.p,a.cap,a.args⟩ ⟨b.p,b.cap,b.args⟩ ⟨l1,c1,r1,ZL⟩ ⟨l2,c2,r2,ZT⟩ hl (enters_of func217 asC rfl)
  (fun x hx y hy=>ih x hx y w c (ZL x hx) (ZT y hy) (Nat.le_trans (YW Ex.wt a.args x hx) asB) hc)
 refine (lF a.op a.lit.w a.lit.h a.lit.l a.head a.name a.hi a.lo a.p a.args.length a.cap b.op b.lit.w b.lit.h b.lit.l b.head b.name b.hi b.lo b.p b.args.length b.cap c _ w hc hE).eqv ?_;simp only[Ex.same_eq,Ex.top,Ex.sames_eq,Bool.and_assoc]
theorem ng(a b:Ex)(w:World)(ha:a.In w)(hb:b.In w)(wa:a.wt≤1048576):Kp Zx w 196 #[a.val,b.val] (.bool (a.same b)):=by
 intro y0;have ha:=ha.plus y0;have hb:=hb.plus y0;obtain⟨V,hV⟩:=ZB (plus w y0);rw[hV]at ha hb ⊢;clear hV;have hq:=fun (W:World) (c:Nat) (z:ZH) (hz:W=plus V z) (hc:W.cell? ⟨c,0,none⟩=some (Gc c))=>KH (bC a b W c (hz▸ha.plus z) (hz▸hb.plus z) wa hc);obtain⟨S,hS⟩:=ZB (a.same b);rw[hS]at hq ⊢;clear hS ha hb wa;obtain⟨op,⟨lw,lh,ll⟩,hd,nm,eh,el,p,cap,args⟩:=a;obtain⟨op2,⟨lw2,lh2,ll2⟩,XU,WW,eh2,el2,p2,cap2,args2⟩:=b;have hq:∀(W:World) (c:Nat) (z:ZH),W=plus V z→W.cell? ⟨c,0,none⟩=some (Gc c)→Calls Zx 217 #[.agg #[.int .u8 op,.int .i64 lw,.int .u64 lh,.int .u64 ll,.string hd,.string nm,.int .i64 eh,.int .i64 el,.slice p args.length cap],.agg #[.int .u8 op2,.int .i64 lw2,.int .u64 lh2,.int .u64 ll2,.string XU,.string WW,.int .i64 eh2,.int .i64 el2,.slice p2 args2.length cap2],.pointer (some ⟨c,0,none⟩)] W fun e w'=>e=.returned (.bool S)∧∃x,w'=plus W x:=hq;show Calls Zx 196 #[.agg #[.int .u8 op,.int .i64 lw,.int .u64 lh,.int .u64 ll,.string hd,.string nm,.int .i64 eh,.int .i64 el,.slice p args.length cap],.agg #[.int .u8 op2,.int .i64 lw2,.int .u64 lh2,.int .u64 ll2,.string XU,.string WW,.int .i64 eh2,.int .i64 el2,.slice p2 args2.length cap2]] V _
 generalize args.length=n1 at hq ⊢;generalize args2.length=n2 at hq ⊢;have Sh:=Zf hq;clear hq;open Z renaming aq7→TU in exact T2
theorem St.In.inE{w:World}{s:St}(h:s.In w):s.e.In w:=by obtain⟨_,_,_,_,e,_,_,_,_,_,_,_,_⟩:=h;exact e
theorem St.In.inThn{w:World}{s:St}(h:s.In w):s.thnS.In w 14 St.cells (St.In w):=by obtain⟨_,_,_,_,_,l,c,r,k,_,_,_,_⟩:=h;exact⟨l,c,r,k⟩
theorem St.In.inEls{w:World}{s:St}(h:s.In w):s.elsS.In w 14 St.cells (St.In w):=by obtain⟨_,_,_,_,_,_,_,_,_,l,c,r,k⟩:=h;exact⟨l,c,r,k⟩
theorem J7(x:Fd):LK x.cells:=⟨_,_,rfl⟩
theorem J8(x:Hr):LL x.cells:=⟨_,_,_,_,rfl⟩
theorem bQ(x:Se):xi x.cells:=⟨_,_,_,_,_,_,_,rfl⟩
theorem bP(x:Lt):xh x.cells:=⟨_,_,_,rfl⟩
theorem bN(x:Ca):xf x.cells:=⟨_,_,_,_,_,rfl⟩
theorem J9(x:Sa):LM x.cells:=⟨_,_,_,_,_,_,_,_,_,_,_,rfl⟩
theorem J5(x:Ac):LJ x.cells:=⟨_,_,_,_,_,_,_,rfl⟩
theorem bO(x:Ke):xg x.cells:=⟨_,_,_,_,_,_,_,_,_,_,_,_,rfl⟩
theorem Ia(x:Ta):LN x.cells:=⟨_,_,_,_,_,_,_,_,_,_,_,rfl⟩
theorem Xk{α:Type}(f:α→Nat)(hf:∀x,1≤f x)(L:Sl α){n:Nat}(h:L.size f≤n):L.l.length≤n:=Nat.le_trans (XM f hf L.l) h
theorem U3{α:Type}{f:α→Nat}{L:Sl α}{n:Nat}{x:α}(h:L.size f≤n)(hx:x∈L.l):f x≤n:=Nat.le_trans (YW f L.l x hx) h
theorem xj(L:Sl ByteArray){n:Nat}(h:L.size Y1≤n):L.l.length≤n:=Xk Y1 Eh L h
theorem zQ(L:Sl Lt){n:Nat}(h:L.size (fun _=>1)≤n):L.l.length≤n:=Xk (fun _=>1) (fun _=>Zt _) L h
end Go.Proofs.YtknmeggfokpbjaaGreat

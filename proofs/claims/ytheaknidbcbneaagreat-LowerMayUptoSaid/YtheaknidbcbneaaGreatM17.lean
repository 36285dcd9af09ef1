/-
  WHAT IS PROVED HERE: a part of the proof (made narrower and merged by program; the parts: Lor Lpa Lsb).
-/
import Derived.Test.YtheaknidbcbneaaGreatM14
import Derived.Test.YtheaknidbcbneaaGreatM10
import Derived.Test.YtheaknidbcbneaaGreatM16
import Derived.Test.YtheaknidbcbneaaGreatM12
set_option maxRecDepth 100000
set_option maxHeartbeats 8000000
set_option linter.all false
namespace Go.Proofs.YtheaknidbcbneaaGreat
open Go.RowKit Go.Proofs.Tryz
open Bool renaming and_eq_true→Zd
open Ending renaming returned→Zf
open Lib renaming hid→Zg
open List renaming mem_cons_self→Zk
open Nat renaming le_refl→Zp,zero_le→Zq
open Go.Proofs.Tryz renaming prog→Zr
open Value renaming bool→Zs,int→Zt
open Go.RowKit
def Yv(_:Nat)(w:Int):Bool:=decide (1≤w)&&decide (w≤128)
def VV(l:List Int):Bool:=ZM 1 16 Yv l&&(l.sum % 8==0&&decide (l.sum≤256))
theorem QM{f:Nat→Int→Bool}:∀(l:List Int) (k:Nat),ZU f k l=true→∀i x,l[i]?=some x→f (k+i) x=true
 | [],_,_,i,x,h=>by simp at h
 | a :: l,k,h,0,x,hx=>by
  simp only[ZU,Zd]at h;simp only[List.getElem?_cons_zero,Option.some.injEq]at hx;subst hx;exact h.1
 | a :: l,k,h,i+1,x,hx=>by
  simp only[ZU,Zd]at h;have:=QM l (k+1) h.2 i x (by simpa using hx);rwa [Nat.add_assoc,Nat.add_comm 1 i]at this
theorem Qt(l:List Int)(h:∀x∈l,1≤x∧x≤128):0≤l.sum∧l.sum≤128*(l.length:Int):=by
 induction l with
 | nil=>simp
 | cons a l ih =>
  have h1:=h a Zk;have h2:=ih (fun x hx=>h x (List.mem_cons_of_mem _ hx));rw[List.sum_cons,List.length_cons];omega
theorem O0(l:List Int)(k:Nat)(x:Int)(h:l[k]?=some x):(l.take (k+1)).sum=(l.take k).sum+x:=by
 rw[List.take_add_one,h];simp
theorem Jj(i)(A:Sl Int)(w:World)(hA:A.In w 1 (Z8 .i64) (Yg .i64))(hl:A.l.length≤1048576):Kp Zr w 43 #[.int .i64 i,A.v] (.bool (VV A.l)):=by
 have h0:=Ss Yv 45 #[] #[] (Yg .i64) w A 1 16 hA hl (enters_of func45 (by kernel_rfl) rfl) (fun j x _=>by
  have:=PL (j:Int) x _ w (R4 x w);simpa [Yv]using this)
 intro y0;have h0:=h0.up y0;have hA:=hA.plus (fun _ a=>a) y0;obtain⟨V,hV⟩:=Zv (plus w y0);rw[hV]at h0 hA ⊢;clear hV;obtain⟨R,hR⟩:=Zv (VV A.l);rw[hR];obtain⟨E,hE⟩:=Zv (ZM 1 16 Yv A.l);rw[hE]at h0;cases E with
 | false =>
  have hF:=Zg (show false=R by rw[←hR];unfold VV;rw[hE];rfl);have Yd:=Zg h0;clear h0 hA hR hE;obtain⟨p,cap,l⟩:=A;simp only[Sl.v]at Yd ⊢;go_enter func43,ntmps43;go_wp2_with fail;refine (YN Yd.out).mono ?_;rintro r w' ⟨rfl,x1,rfl⟩;go_wp2_with fail;go_ret;exact⟨congrArg (fun z=>Zf (Zs z)) hF.out,_,rfl⟩
 | true =>
  have hE2:=hE;unfold ZM at hE2;simp only[Zd,decide_eq_true_eq]at hE2;have hm:∀x∈A.l,1≤x∧x≤128:=by
   intro x hx;obtain⟨j,hj⟩:=List.mem_iff_getElem?.1 hx;have:=QM A.l 0 hE2.2 j x hj;simpa [Yv]using this
  have Z0:(A.l.sum % 8==0&&decide (A.l.sum≤256))=R:=by rw[←hR];unfold VV;rw[hE];rfl
  have hs:=Qt A.l hm;have YA:A.l.length≤16:=by omega
  have Wm:∀k,0≤(A.l.take k).sum∧(A.l.take k).sum≤2048:=by
   intro k;have h1:=Qt (A.l.take k) (fun x hx=>hm x (List.mem_of_mem_take hx));have h2:(A.l.take k).length≤A.l.length:=by rw[List.length_take];exact Nat.min_le_right _ _
   omega
  obtain⟨p,cap,l⟩:=A;simp only[Sl.v]at h0 hl hm Z0 hs YA Wm ⊢;obtain⟨n,hn⟩:=Zv l.length;rw[hn]at h0 hl YA hs ⊢;have Yd:=Zg h0;have ZR:=Zg hA.row;have ZJ:=Zg hn;have ZX:=Zg hl;have YJ:=Zg hm;have hmt':=Zg Wm;have Yi:=Zg Z0;clear h0 hA hl hm Wm hR hE hE2 Z0 hs YA hn;go_enter func43,ntmps43;go_wp2_with fail;refine (YN Yd.out).mono ?_;rintro r w' ⟨rfl,x1,rfl⟩;go_wp2_with fail;go_loopw [5,7,13] (fun sv _ iv wr=>∃k:Nat,k≤n∧sv=.int .i64 ((l.take k).sum)∧iv=.int .i64 (k:Int)∧∃y,wr=plus V y) (fun _ _ iv _=>n-(intOf iv).toNat)
  case atStart=>exact⟨0,Zq _,by simp,rfl,x1,rfl⟩
  case round =>
   obtain⟨k,hk,rfl,rfl,y,rfl⟩:=hrel;by_cases Zz:k<n
   ·obtain⟨a,ha⟩:=Z6 l k (by rw[ZJ.out];exact Zz)
    obtain⟨pa,rfl,hc⟩:=ZR.out k a ha;have d0:=fun y=>(hc.plus y).c0 _ rfl;simp only[Nat.mul_one]at d0;have Ve:=Zg (O0 l k a ha);have hw:=Zg (show wrap64 ((l.take k).sum+a)=(l.take (k+1)).sum by rw[←Ve.out];exact (fun (z:Int) (h:0≤z∧z≤2048)=>(by unfold wrap64;omega:wrap64 z=z)) _ (hmt'.out (k+1)));have a6:=Zg (Yo k n Zz ZX.out);clear hc ha Ve;generalize (l.take k).sum=S at hw ⊢;go_wp2;go_roundw
    case rel=>exact⟨k+1,Zz,congrArg (Zt .i64) hw.out,congrArg (Zt .i64) a6.out,y,rfl⟩
    case measure=>exact YF k n Zz a6.out
   ·obtain rfl:k=n:=by omega
    have hT:(l.take k).sum=l.sum:=by rw[List.take_of_length_le (by rw[ZJ.out];exact Zp _)]
    have hS:=hmt'.out k;have hRo:=Yi.out;rw[hT]at hS ⊢;generalize l.sum=S at hS hRo ⊢;have e8:S.tmod 8=S % 8:=Int.tmod_eq_emod_of_nonneg hS.1;clear hT YJ hmt' Yi ZR ZJ ZX Yd;by_cases q1:S % 8=0
    ·have q1b:(S.tmod 8==0)=true:=by rw[e8,q1];rfl
     have hF:=Zg (show decide (S≤256)=R by rw[←hRo,q1];simp);clear hRo e8 q1 Zz hk hS;go_wp2;go_ret;exact⟨congrArg (fun z=>Zf (Zs z)) hF.out,y,rfl⟩
    ·have q1b:(S.tmod 8==0)=false:=by rw[e8];simpa using q1
     have hF:=Zg (show false=R by rw[←hRo];simp[q1]);clear hRo e8 q1 Zz hk hS;go_wp2;go_ret;exact⟨congrArg (fun z=>Zf (Zs z)) hF.out,y,rfl⟩
def Sk(p:Pg)(n:Nat)(a:At):Bool:=ZM 0 8 Yv a.params.l&&ZM 0 65536 (XD p (n:Int) a.body.l.length) a.body.l
theorem PH(A:Sl Int)(lo hi)(w:World)(hA:A.In w 1 (Z8 .i64) (Yg .i64))(hl:A.l.length≤1048576):Kp Zr w 44 #[A.v,.int .i64 lo,.int .i64 hi,.func (.func 45) #[] #[]] (.bool (ZM lo hi Yv A.l)) :=
 Ss Yv 45 #[] #[] (Yg .i64) w A lo hi hA hl (enters_of func45 (by kernel_rfl) rfl) (fun j x _=>PL (j:Int) x _ w (R4 x w))
theorem Kc(p:Pg)(mr n:Nat)(a:At)(w:World)(hp:p.In w)(hz:p.sz≤1048576)(hm:Yf w mr (X9 20))(ha:a.In w)(h1:a.params.l.length≤1048576)(h2:a.body.l.length≤1048576) :
  Kp Zr w 50 #[X0 p mr,.int .i64 (n:Int),.agg #[a.params.v,a.body.v]] (.bool (Sk p n a)) :=
 L9 _ _ _ _ _ _ _ _ _ _ _ _ _ _ _ _ _ _ _ _ _ _ _ _ _ _ _ _ _ _ _ _ _ _ _ _ _ (n:Int) a.params.p a.params.l.length a.params.cap a.body.p a.body.l.length a.body.cap _ _ w (PH a.params 0 8 w ha.params h1) (PI p mr (n:Int) a.body w hp hz hm ha.body h2)
def Ur(p:Pg)(c:Sl Nd):Bool:=(YR (p.env (-1)) c.l).2
theorem PJ(p:Pg)(mr n:Nat)(c:Sl Nd)(w:World)(hp:p.In w)(hz:p.sz≤1048576)(hm:Yf w mr (X9 20))(hc:c.In w 6 Nd.cells Nd.In) :
  Kp Zr w 80 #[X0 p mr,.int .i64 (n:Int),c.v] (.bool (Ur p c)) :=
 Jb _ _ _ _ _ _ _ _ _ _ _ _ _ _ _ _ _ _ _ _ _ _ _ _ _ _ _ _ _ _ _ _ _ _ _ _ _ (n:Int) c.p c.l.length c.cap _ _ w (R5 p mr (-1) c w hp hz hc hm)
def Tz(p:Pg)(t:Int):Bool:=(t==-1)||((t==-2)||YE t p.steps.l.length)
theorem PO(p:Pg)(mr:Nat)(t w):Kp Zr w 78 #[X0 p mr,.int .i64 t] (.bool (Tz p t)) :=
 JR _ _ _ _ _ _ _ _ _ _ _ _ _ _ _ _ _ _ _ _ _ _ _ _ _ _ _ _ _ _ _ _ _ _ _ _ _ t _ w (K1 t p.steps.p p.steps.l.length p.steps.cap w)
theorem KU(p:Pg)(mr:Nat)(i n w):Kp Zr w 77 #[X0 p mr,.int .i64 i,.int .i64 n] (.bool (YE n p.heads.l.length)) :=
 KT _ _ _ _ _ _ _ _ _ _ _ _ _ _ _ _ _ _ _ _ _ _ _ _ _ _ _ _ _ _ _ _ _ _ _ _ _ i n _ w (SH n p.heads.p p.heads.l.length p.heads.cap w)
def Sf(x:Pt)(k:Int):Bool:=decide (x.m.n % 2 ^ hw k=x.m.n)&&decide (x.v.n &&& x.m.n=x.v.n)
theorem JM(x:Pt)(k w)(hx:x.In):Kp Zr w 85 #[.agg #[.int .u64 x.v.h,.int .u64 x.v.l,.int .u64 x.m.h,.int .u64 x.m.l],.int .i64 k] (.bool (Sf x k)):=by
 have hv:=Nu.n_lt hx.v;have hmm:=Nu.n_lt hx.m;have h0:Kp Zr w 32 #[.agg #[.int .u64 x.m.h,.int .u64 x.m.l],.int .i64 k] (.bool (decide (x.m.n % 2 ^ hw k=x.m.n))):=by
  rw[Nu.nv_eq hx.m];exact fun y=>SK x.m.n k hmm (plus w y)
 have h1:Kp Zr w 102 #[.agg #[.int .u64 x.v.h,.int .u64 x.v.l],.agg #[.int .u64 x.m.h,.int .u64 x.m.l]] (.agg #[.int .u64 (hi (x.v.n &&& x.m.n)),.int .u64 (lo (x.v.n &&& x.m.n))]):=by
  rw[Nu.nv_eq hx.v,Nu.nv_eq hx.m];exact fun y=>P3 x.v.n x.m.n hv hmm (plus w y)
 refine (Jl x.v.h x.v.l x.m.h x.m.l k _ _ _ w h0 h1).eqv ?_;have e:=Nu.nv_eq hx.v;simp only[nv,Value.agg.injEq,Array.mk.injEq,List.cons.injEq,Zt.injEq,true_and,and_true]at e;unfold Sf;congr 2
 rw[e.1,e.2,Bool.eq_iff_iff,Zd,beq_iff_eq,beq_iff_eq,decide_eq_true_eq];constructor
 ·rintro⟨a,b⟩
  unfold hi at a;unfold lo at b;omega
 ·intro h
  rw[h];exact⟨rfl,rfl⟩
def WI(l:List Nd):Int:=match l.getLast? with|some n=>n.w|none=>0
theorem Jf(c:Sl Nd)(w:World)(hc:c.In w 6 Nd.cells Nd.In)(hn:c.l≠[]):Kp Zr w 68 #[c.v] (.int .i64 (WI c.l)):=by
 intro y0;obtain⟨p,cap,l⟩:=c;simp only[Sl.v]at hn ⊢;have hA:=hc.row.plus y0;have hb:=hc.len;have hb2:=hc.cap;simp only[maxLen]at hb hb2;obtain⟨W,hW⟩:=Zv (plus w y0);rw[hW]at hA ⊢;clear hW;obtain⟨k,hk⟩:∃k,l.length=k+1:=⟨l.length-1,by have:=List.length_pos_iff.2 hn;omega⟩;obtain⟨x,hx⟩:=Z6 l k (by omega);have hla:WI l=x.w:=by
  unfold WI;rw[List.getLast?_eq_getElem?,hk,Nat.add_sub_cancel,hx]
 obtain⟨pa,rfl,hd⟩:=hA k x hx;have d1:=(hd.cs 0 _ rfl:W.cell? _=some (.int .i64 x.w));rw[hla,hk];have hs:(((k+1:Nat):Int))-1=(k:Int):=by omega
 have k0:¬((k:Int)<0):=by omega
 have k1:(k:Int)<((k+1:Nat):Int):=by omega
 have k2:(k:Int)≤9223372036854775807:=by omega
 clear hc hA hd hx hk hn hla;go_enter func68,ntmps68;go_wp2;go_ret;exact⟨rfl,⟨#[],W.drawn⟩,(ZK W).symm⟩
theorem Y7.up{w w':World}{b:Nat}{v:Value}{l:List Nd}(h:Y7 w b v l)(hB:Below w.heap.size w w'):Y7 w' b v l:=Rh h hB
theorem PQ(p:Option Addr)(n c:Nat)(l:List Nd)(w:World)(hr:Z2 w 6 Nd.cells p l)(hn:l.length=n)(hb:n≤1048576)(h0:l≠[]):Kp Zr w 68 #[.slice p n c] (.int .i64 (WI l)):=by
 intro y0;have hA:=hr.plus y0;obtain⟨W,hW⟩:=Zv (plus w y0);rw[hW]at hA ⊢;clear hW hr;obtain⟨k,hk⟩:∃k,l.length=k+1:=⟨l.length-1,by have:=List.length_pos_iff.2 h0;omega⟩;obtain⟨x,hx⟩:=Z6 l k (by omega);have hla:WI l=x.w:=by
  unfold WI;rw[List.getLast?_eq_getElem?,hk,Nat.add_sub_cancel,hx]
 obtain⟨pa,rfl,hd⟩:=hA k x hx;have d1:=(hd.cs 0 _ rfl:W.cell? _=some (.int .i64 x.w));rw[hla,←hn,hk];have hs:(((k+1:Nat):Int))-1=(k:Int):=by omega
 have k0:¬((k:Int)<0):=by omega
 have k1:(k:Int)<((k+1:Nat):Int):=by omega
 have k2:(k:Int)≤9223372036854775807:=by omega
 clear hA hd hx hk hn hla h0 hb;go_enter func68,ntmps68;go_wp2;go_ret;exact⟨rfl,⟨#[],W.drawn⟩,(ZK W).symm⟩
theorem Yt{W W2:World}{z:ZA}{a:Addr}{v:Option Value}(hz:W2=plus W z)(h:∀y,(plus W y).cell? a=v):∀y,(plus W2 y).cell? a=v:=fun y=>by rw[hz,Zx];exact h _
def Ry(W:World)(f:FuncId)(args:Array Value)(l1 l2:List Nd):Prop:=∀X,Below W.heap.size W X→Calls Zr f args X fun e w'=>∃v1 v2,e=.returned (.tuple #[v1,v2])∧(∃z,w'=plus X z)∧Y7 w' X.heap.size v1 l1∧Y7 w' X.heap.size v2 l2
theorem KG(q0p q0n q0c q1p q1n q1c q2p q2n q2c q3p q3n q3c q4p q4n q4c q5p q5n q5c q6p q6n q6c act)(r:Nat)(xop xlw xlh xll xeh xel xhd xnm xap xan xac yop ylw ylh yll yeh yel yhd ynm yap yan yac)(l1 l2:List Nd)(w)(hF:Kp Zr w 147 #[.agg #[.int .u8 xop,.int .i64 xlw,.int .u64 xlh,.int .u64 xll,.string xhd,.string xnm,.int .i64 xeh,.int .i64 xel,.slice xap xan xac]] (.bool false))(h1:Ww w 37 #[.agg #[.slice q0p q0n q0c,.slice q1p q1n q1c,.slice q2p q2n q2c,.slice q3p q3n q3c,.slice q4p q4n q4c,.slice q5p q5n q5c,.slice q6p q6n q6c,.int .i64 act,.map (some r)],.agg #[.int .u8 xop,.int .i64 xlw,.int .u64 xlh,.int .u64 xll,.string xhd,.string xnm,.int .i64 xeh,.int .i64 xel,.slice xap xan xac],.int .i64 0] l1)(h2:Ww w 37 #[.agg #[.slice q0p q0n q0c,.slice q1p q1n q1c,.slice q2p q2n q2c,.slice q3p q3n q3c,.slice q4p q4n q4c,.slice q5p q5n q5c,.slice q6p q6n q6c,.int .i64 act,.map (some r)],.agg #[.int .u8 yop,.int .i64 ylw,.int .u64 ylh,.int .u64 yll,.string yhd,.string ynm,.int .i64 yeh,.int .i64 yel,.slice yap yan yac],.int .i64 (WI l1)] l2)(h0:l1≠[])(hb:l1.length≤1048576) :
  Ry w 118 #[.agg #[.slice q0p q0n q0c,.slice q1p q1n q1c,.slice q2p q2n q2c,.slice q3p q3n q3c,.slice q4p q4n q4c,.slice q5p q5n q5c,.slice q6p q6n q6c,.int .i64 act,.map (some r)],.agg #[.int .u8 xop,.int .i64 xlw,.int .u64 xlh,.int .u64 xll,.string xhd,.string xnm,.int .i64 xeh,.int .i64 xel,.slice xap xan xac],.agg #[.int .u8 yop,.int .i64 ylw,.int .u64 ylh,.int .u64 yll,.string yhd,.string ynm,.int .i64 yeh,.int .i64 yel,.slice yap yan yac]] l1 l2:=by
 intro V hV;obtain⟨W,hW,ZY,hz,ca,cb,cc,-⟩:=WL V #[.slice q0p q0n q0c,.slice q1p q1n q1c,.slice q2p q2n q2c,.slice q3p q3n q3c,.slice q4p q4n q4c,.slice q5p q5n q5c,.slice q6p q6n q6c,.int .i64 act,.map (some r)] #[.int .u8 xop,.int .i64 xlw,.int .u64 xlh,.int .u64 xll,.string xhd,.string xnm,.int .i64 xeh,.int .i64 xel,.slice xap xan xac] #[.int .u8 yop,.int .i64 ylw,.int .u64 ylh,.int .u64 yll,.string yhd,.string ynm,.int .i64 yeh,.int .i64 yel,.slice yap yan yac] 106 65 65;have c0_0:=ca 0 _ rfl;have c0_1:=ca 1 _ rfl;have c0_2:=ca 2 _ rfl;have c0_3:=ca 3 _ rfl;have c0_4:=ca 4 _ rfl;have c0_5:=ca 5 _ rfl;have c0_6:=ca 6 _ rfl;have c0_7:=ca 7 _ rfl;have c0_8:=ca 8 _ rfl;have c1_0:=cb 0 _ rfl;have c1_1:=cb 1 _ rfl;have c1_2:=cb 2 _ rfl;have c1_3:=cb 3 _ rfl;have c1_4:=cb 4 _ rfl;have c1_5:=cb 5 _ rfl;have c1_6:=cb 6 _ rfl;have c1_7:=cb 7 _ rfl;have c1_8:=cb 8 _ rfl;have c2_0:=cc 0 _ rfl;have c2_1:=cc 1 _ rfl;have c2_2:=cc 2 _ rfl;have c2_3:=cc 3 _ rfl;have c2_4:=cc 4 _ rfl;have c2_5:=cc 5 _ rfl;have c2_6:=cc 6 _ rfl;have c2_7:=cc 7 _ rfl;have c2_8:=cc 8 _ rfl;have q1:=Zg (h1.grow (hV.trans (ZY.mono hV.size)));have q2:=Zg (h2.grow (hV.trans (ZY.mono hV.size)));obtain⟨zV,hzV⟩:=ZS hV;obtain⟨zW,hzW⟩:=ZS ZY;have qF:=Zg (Zy (by rw[hzW,hzV,Zx]) hF:Vh Zr W _ _ _);have hbw:=Zg ZY;have YI:=Zg hb;have Yd:=Zg h0;clear hF h1 h2 hV ca cb cc hzW hzV hb h0;go_enter func118,ntmps118;go_upto_region 1 with (fail)
 rw[←hW];clear hW ZY;rw[←ZK W];go_wp2_with fail;refine (qF.out _).mono ?_;rintro e w' ⟨rfl,y1,rfl⟩;go_wp2_with fail;refine (q1.out _ (Z9 W y1)).mono ?_;rintro e w' ⟨v1,rfl,⟨z1,rfl⟩,ho1⟩;rw[Zx]at ho1 ⊢;obtain⟨p1,c1,rfl,Vc,hr1⟩:=ho1.form;obtain⟨n1,hn1⟩:=Zv l1.length;rw[hn1]at Vc ho1 ⊢;obtain⟨X,hX⟩:=Zv (Go.Proofs.YtheaknidbcbneaaGreat.plus W (⟨y1.blocks++z1.blocks,z1.draws⟩:ZA));have hBX:Below W.heap.size W X:=hX▸Z9 W _;have Yq:V.heap.size≤(Go.Proofs.YtheaknidbcbneaaGreat.plus W y1).heap.size:=Nat.le_trans hbw.out.size (Z9 W y1).size;rw[hX]at ho1 hr1 ⊢;have d0_0:=Yt hX.symm c0_0;have d0_1:=Yt hX.symm c0_1;have d0_2:=Yt hX.symm c0_2;have d0_3:=Yt hX.symm c0_3;have d0_4:=Yt hX.symm c0_4;have d0_5:=Yt hX.symm c0_5;have d0_6:=Yt hX.symm c0_6;have d0_7:=Yt hX.symm c0_7;have d0_8:=Yt hX.symm c0_8;have d1_0:=Yt hX.symm c1_0;have d1_1:=Yt hX.symm c1_1;have d1_2:=Yt hX.symm c1_2;have d1_3:=Yt hX.symm c1_3;have d1_4:=Yt hX.symm c1_4;have d1_5:=Yt hX.symm c1_5;have d1_6:=Yt hX.symm c1_6;have d1_7:=Yt hX.symm c1_7;have d1_8:=Yt hX.symm c1_8;have d2_0:=Yt hX.symm c2_0;have d2_1:=Yt hX.symm c2_1;have d2_2:=Yt hX.symm c2_2;have d2_3:=Yt hX.symm c2_3;have d2_4:=Yt hX.symm c2_4;have d2_5:=Yt hX.symm c2_5;have d2_6:=Yt hX.symm c2_6;have d2_7:=Yt hX.symm c2_7;have d2_8:=Yt hX.symm c2_8;have e0_0:=d0_0 ⟨#[],X.drawn⟩;have e0_1:=d0_1 ⟨#[],X.drawn⟩;have e0_2:=d0_2 ⟨#[],X.drawn⟩;have e0_3:=d0_3 ⟨#[],X.drawn⟩;have e0_4:=d0_4 ⟨#[],X.drawn⟩;have e0_5:=d0_5 ⟨#[],X.drawn⟩;have e0_6:=d0_6 ⟨#[],X.drawn⟩;have e0_7:=d0_7 ⟨#[],X.drawn⟩;have e0_8:=d0_8 ⟨#[],X.drawn⟩;have e2_0:=d2_0 ⟨#[],X.drawn⟩;have e2_1:=d2_1 ⟨#[],X.drawn⟩;have e2_2:=d2_2 ⟨#[],X.drawn⟩;have e2_3:=d2_3 ⟨#[],X.drawn⟩;have e2_4:=d2_4 ⟨#[],X.drawn⟩;have e2_5:=d2_5 ⟨#[],X.drawn⟩;have e2_6:=d2_6 ⟨#[],X.drawn⟩;have e2_7:=d2_7 ⟨#[],X.drawn⟩;have e2_8:=d2_8 ⟨#[],X.drawn⟩;rw[ZK]at e0_0 e0_1 e0_2 e0_3 e0_4 e0_5 e0_6 e0_7 e0_8 e2_0 e2_1 e2_2 e2_3 e2_4 e2_5 e2_6 e2_7 e2_8;have hBX':=Zg hBX;have qWd:=Zg (PQ p1 n1 c1 l1 X hr1 hn1 (by rw[←hn1];exact YI.out) Yd.out).pure;have hO1:=Zg (ho1.lower Yq);have q2':=Zg (q2.out.grow hBX);clear hX hBX Yq ho1 hr1 Vc q2 q1 qF c0_0 c0_1 c0_2 c0_3 c0_4 c0_5 c0_6 c0_7 c0_8 c1_0 c1_1 c1_2 c1_3 c1_4 c1_5 c1_6 c1_7 c1_8 c2_0 c2_1 c2_2 c2_3 c2_4 c2_5 c2_6 c2_7 c2_8;go_upto_region 5 with (fail)
 go_region_law (go_simp;first
  | (go_at_call 68;refine (qWd.out ⟨#[],X.drawn+1⟩).mono ?_;rintro e w' ⟨rfl,yd,rfl⟩)
  | (go_at_call 37;refine (q2'.out _ (Z9 X yd)).mono ?_;rintro e w' ⟨v2,rfl,⟨z2,rfl⟩,ho2⟩))
 all_goals
  have hE:=Zg (hbw.out.trans ((hBX'.out.trans (((Z9 X yd).trans ((Z9 _ z2).mono (Z9 X yd).size)).mono hBX'.out.size)).mono hbw.out.size));have hO1b:=Zg ((hO1.out.up (Z9 X yd)).up (Z9 _ z2));have hO2:=Zg (ho2.lower (Nat.le_trans hbw.out.size (Nat.le_trans hBX'.out.size (Z9 X yd).size)));clear ho2 hO1 q2' qWd;go_wp2_with fail;go_ret2;exact⟨_,_,rfl,ZS hE.out,hO1b.out,hO2.out⟩
end Go.Proofs.YtheaknidbcbneaaGreat

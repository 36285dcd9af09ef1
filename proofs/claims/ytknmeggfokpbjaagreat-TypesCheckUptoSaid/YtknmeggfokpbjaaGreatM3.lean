/-
  WHAT IS PROVED HERE: a part of the proof (made narrower and merged by program; the parts: SE SH FG).
-/
import Derived.Deep.CutRange
import Derived.Deep.RegionHeld3
import Derived.Laws.EntriesVeiled
import Derived.Test.YtknmeggfokpbjaaGreatM2
set_option maxRecDepth 100000
set_option maxHeartbeats 8000000
set_option linter.all false
namespace Go.Proofs.YtknmeggfokpbjaaGreat
open Z
open Go.RowKit Go.Proofs.Tryz
open Below renaming refl→Zb
open Ending renaming returned→Zd
open Lib renaming hid→Zf
open List renaming getElem?_eq_some_iff→Zi,map_cons→Zm,mem_of_getElem?→Zo,take_succ_cons→Zs
open Nat renaming le_refl→Zt,zero_le→Zw
open Go.Proofs.Tryz renaming prog→Zx
open Value renaming bool→Zy,int→Zz
open Go.RowKit
theorem abm(t h n E A B u:Nat)(hu:u=t+(1+h+n+E+A+B))(hb:u≤1048576):wrap64 (wrap64 (wrap64 (wrap64 (wrap64 (wrap64 ((t:Int)+1)+h)+n)+E)+A)+B)=(u:Int):=by
 rw[Wv ((t:Int)+1) asB,Wv ((t:Int)+1+h) asB,Wv ((t:Int)+1+h+n) asB,Wv ((t:Int)+1+h+n+E) asB,Wv ((t:Int)+1+h+n+E+A) asB,Wv _ asB];omega
theorem Wo.of_plus{P:Program}{w:World}{f:FuncId}{args:Array Value}{v:Value}(h:∀w',(∃y,w'=plus w y)→Calls P f args w' fun e w''=>e=.returned v∧∃x,w''=plus w' x):Wo P w f args v:=fun y =>
 (h _ ⟨y,rfl⟩).mono fun _ _ ⟨he,x,hx⟩=>⟨he,by rw[hx,ZD];exact⟨_,rfl⟩⟩
theorem Wo.plus{P:Program}{w:World}{f:FuncId}{args:Array Value}{v:Value}(h:Wo P w f args v)(z:ZH):∀y,Calls P f args (plus (plus w z) y) fun e w'=>e=.returned v∧∃x,w'=Go.Proofs.YtknmeggfokpbjaaGreat.plus w x:=fun y=>by
 rw[ZD];exact h _
theorem xJ(e:Ex)(w:World)(h:e.In w)(hb:e.wt≤1048576):Wo Zx w 14 #[e.val] (.int .i64 (e.wt:Int)) :=
 Wo.of_plus fun _ ⟨y,hy⟩=>dP e _ (hy▸h.plus y) hb
def St.thnS(s:St):Sl St:=⟨s.p,s.cap,s.thn⟩
def St.elsS(s:St):Sl St:=⟨s.q,s.cbp,s.els⟩
def Nm(L:Sl St):Prop:=∀w:World,L.In w 14 St.cells (St.In w)→L.size St.sz≤1048576→Wo Zx w 12 #[L.v] (.int .i64 (L.size St.sz:Int))
theorem St.sz_pos(s:St):1≤s.sz:=by rw[St.sz_eq];omega
theorem EF(L:Sl St)(ih:∀x∈L.l,Nm x.thnS∧Nm x.elsS):Nm L:=by
 intro w ZF hb y0;obtain⟨p,cap,l⟩:=L;obtain⟨h1,h2,Yj,Xj⟩:=ZF;simp only[Sl.size,Sl.v]at hb h1 Yj Xj ih ⊢;have hn:∃n,l.length=n:=⟨_,rfl⟩;obtain⟨n,hn⟩:=hn;have hl:n≤1048576:=by have:=XM St.sz St.sz_pos l;omega
 rw[hn];have hR:∃R,(l.map St.sz).sum=R:=⟨_,rfl⟩;obtain⟨R,hR⟩:=hR;rw[hR]at hb ⊢;have ih':=Zf ih;have Wf:=Zf (Yj.plus y0);have Sf:=Zf (fun x hx=>(Xj x hx).plus y0);have ZR:=Zf hR;have Yi:=Zf hb;have ZO:=Zf hn;have Yt:=Zf hl;clear Yj Xj hb hn hl hR h1 h2 ih;obtain⟨W,hW⟩:=ZB (plus w y0);rw[hW]at Wf Sf ⊢;have Uq:=Zf hW;clear hW;go_enter func12,ntmps12;go_wp2;go_loopw [3,4] (fun nv iv wr=>∃k:Nat,k≤n∧iv=.int .i64 (k:Int)∧nv=.int .i64 (YT St.sz 0 l k:Int)∧∃y,wr=plus W y) (fun _ iv _=>n-(intOf iv).toNat)
 case atStart=>exact⟨0,Zw _,rfl,congrArg (Zz .i64) (by rw[R5];rfl),⟨#[],W.drawn⟩,(Yk W).symm⟩
 case round =>
  obtain⟨k,hk,rfl,rfl,y,rfl⟩:=hrel;by_cases ZC:k<n
  ·obtain⟨s,hs⟩:=Yq l k asG
   obtain⟨a,rfl,hc⟩:=Wf.out k s hs;have a3:=R4 St.sz 0 l k s hs;have a4:=RZ St.sz 0 l (k+1);have ZV:s∈l:=Zo hs;obtain⟨i1,i2⟩:=ih'.out s ZV;have Vp:=Sf.out s ZV;obtain⟨kind,hd,nm,e,sp,scap,thn,sq,scbp,els⟩:=s;have YB:=St.sz_eq (.mk kind hd nm e sp scap thn sq scbp els);obtain⟨_,_,_,_,he,l1,l2,l3,l4,l5,l6,l7,l8⟩:=Vp;simp only[St.head,St.name,St.e,St.p,St.cap,St.thn,St.q,St.cbp,St.els]at he l1 l2 l3 l4 l5 l6 l7 l8 YB;have hS:∃S,St.sz (.mk kind hd nm e sp scap thn sq scbp els)=S:=⟨_,rfl⟩;obtain⟨S,hS⟩:=hS;rw[hS]at YB a3;have b0:S≤1048576:=by have:=Yi.out;have:=ZR.out;omega
   have q1:=xJ e W he asB;have q2:=i1 W ⟨l1,l2,l3,l4⟩ (show (thn.map St.sz).sum≤1048576 by omega);have q3:=i2 W ⟨l5,l6,l7,l8⟩ (show (els.map St.sz).sum≤1048576 by omega);simp only[Sl.size,Sl.v,St.thnS,St.elsS,St.p,St.cap,St.thn,St.q,St.cbp,St.els]at q2 q3;obtain⟨eop,⟨elw,elh,ell⟩,ehd,enm,eeh,eel,ep,ecap,eargs⟩:=e;open Z renaming aqu→N6 in exact MI
  ·obtain rfl:k=n:=by omega
   have hT:(YT St.sz 0 l k:Int)=(R:Int):=by
    have:=ZR.out;rw[RY St.sz _ l k ZO.out];omega
   have WB:=Zf hT;clear hT;go_wp2;go_ret;exact⟨congrArg (fun z=>Zd (Zz .i64 z)) WB.out,aub⟩
theorem xK(L:Sl St):Nm L :=
 EF L fun x _=>St.ind (Q:=fun s=>Nm s.thnS∧Nm s.elsS) (fun s h1 h2=>⟨EF s.thnS h1,EF s.elsS h2⟩) x
mutual
/-- How deep it is. -/
def Ex.dp:Ex→Nat
 | .mk _ _ _ _ _ _ _ _ args=>Ex.dps 1 args
def Ex.dps(m:Nat):List Ex→Nat
 | []=>m
 | e :: l=>Ex.dps (if m<1+e.dp then 1+e.dp else m) l
end
theorem Ex.dp_eq(e:Ex):e.dp=Ex.dps 1 e.args:=by cases e;rw[Ex.dp];rfl
theorem Ex.dps_take(l:List Ex)(m k:Nat)(x:Ex)(h:l[k]?=some x):Ex.dps m (l.take (k+1))=(if Ex.dps m (l.take k)<1+x.dp then 1+x.dp else Ex.dps m (l.take k)):=by
 induction l generalizing m k with
 | nil=>simp at h
 | cons e l ih =>
  cases k with
  | zero =>
   simp only[List.getElem?_cons_zero,Option.some.injEq]at h;subst h;simp[Ex.dps]
  | succ k =>
   simp only[List.getElem?_cons_succ]at h;simp only[Zs,Ex.dps];exact ih _ k h
theorem Ex.dps_le(l:List Ex)(m:Nat)(hm:1≤m)(ih:∀x∈l,x.dp≤x.wt):Ex.dps m l≤m+(l.map Ex.wt).sum:=by
 induction l generalizing m with
 | nil=>simp[Ex.dps]
 | cons e l ih2 =>
  have h1:=ih e (List.mem_cons_self);have h2:=ih2 (if m<1+e.dp then 1+e.dp else m) (by split <;> omega) (fun x hx=>ih x (List.mem_cons_of_mem _ hx));simp only[Ex.dps,Zm,List.sum_cons];split at h2 <;> split <;> omega
theorem Ex.dp_le:∀e:Ex,e.dp≤e.wt:=fun e=>Ex.ind (Q:=fun e=>e.dp≤e.wt) (fun e ih=>by
 have:=Ex.dps_le e.args 1 (Zt _) ih;rw[Ex.dp_eq,Ex.wt_eq];omega) e
theorem mN{D D0 D1:Nat}(a:wrap64 (1+(D:Int))=((1+D:Nat):Int))(h:(1+D=D1∧(D0:Int)<wrap64 (1+(D:Int)))∨(D0=D1∧wrap64 (1+(D:Int))≤(D0:Int)))(hl:(D0:Int)<wrap64 (1+(D:Int))):wrap64 (1+(D:Int))=(D1:Int):=by
 rcases h with⟨h,_⟩|⟨_,h⟩
 ·rw[a,h]
 ·omega
theorem mM{D D0 D1:Nat}(h:(1+D=D1∧(D0:Int)<wrap64 (1+(D:Int)))∨(D0=D1∧wrap64 (1+(D:Int))≤(D0:Int)))(hl:wrap64 (1+(D:Int))≤(D0:Int)):(D0:Int)=(D1:Int):=by
 rcases h with⟨_,h⟩|⟨h,_⟩
 ·omega
 ·rw[h]
theorem dI:∀(e:Ex) (w:World),e.In w→e.wt≤1048576→Calls Zx 204 #[e.val] w fun r w'=>r=.returned (.int .i64 (e.dp:Int))∧∃x,w'=plus w x:=by
 intro e;induction e using Ex.ind with
 | _ e ih =>
 intro w ZF hb;obtain⟨op,⟨lw,lh,ll⟩,hd,nm,eh,el,p,cap,args⟩:=e;obtain⟨_,_,_,_,_,_,_,_,_,Yj,Xj⟩:=ZF;have Wk:=Ex.wt_eq (.mk op ⟨lw,lh,ll⟩ hd nm eh el p cap args);have hdp:=Ex.dp_eq (.mk op ⟨lw,lh,ll⟩ hd nm eh el p cap args);simp only[Ex.args,Ex.head,Ex.name,Ex.p]at ih Yj Xj Wk hdp;rw[Wk]at hb;rw[hdp];clear Wk hdp;show Calls Zx 204 #[.agg #[.int .u8 op,.int .i64 lw,.int .u64 lh,.int .u64 ll,.string hd,.string nm,.int .i64 eh,.int .i64 el,.slice p args.length cap]] w _
 obtain⟨n,hn⟩:=ZB args.length;have hl:n≤1048576:=at9;rw[hn];have ih':=Zf ih;have Wf:=Zf Yj;have Sf:=Zf Xj;have Yi:=Zf hb;have ZO:=Zf hn;have Yt:=Zf hl;clear hl ih Yj Xj hb hn;go_enter func204,ntmps204;go_wp2;obtain⟨W,hW,hB,hs,ca,fa⟩:=WS w _ 45;rw[←hW];have c8:=ca 8 (some (.slice p n cap)) rfl;obtain⟨z,hz⟩:=Yy hB;have ZN:=Zf hz;clear hW ca fa hz;go_loopw [3,4,5] (fun nv iv _ wr=>∃k:Nat,k≤n∧iv=.int .i64 (k:Int)∧nv=.int .i64 (Ex.dps 1 (args.take k):Int)∧∃y,wr=plus W y) (fun _ iv _ _=>n-(intOf iv).toNat)
 case atStart=>exact⟨0,Zw _,rfl,congrArg (Zz .i64) (by simp[Ex.dps]),⟨#[],W.drawn⟩,(Yk W).symm⟩
 case round =>
  obtain⟨k,hk,rfl,rfl,y,rfl⟩:=hrel;by_cases ZC:k<n
  ·obtain⟨e,he⟩:=Yq args k asG
   obtain⟨a,rfl,hc⟩:=Wf.out k e he;have ZV:e∈args:=Zo he;have hew:=YW Ex.wt args e ZV;have hdw:=Ex.dp_le e;have Vp:=Ex.dps_take args 1 k e he;have Xw:=fun y=>ih'.out e ZV (plus W y) (by rw[ZN.out,ZD];exact (Sf.out e ZV).plus _) atJ;obtain⟨D,hD⟩:=ZB e.dp;rw[hD]at Xw Vp hdw;obtain⟨D1,hD1⟩:=ZB (Ex.dps 1 (args.take (k+1)));obtain⟨D0,hD0⟩:=ZB (Ex.dps 1 (args.take k));rw[hD1,hD0]at Vp;rw[hD0];have a7:=Zf (show wrap64 (1+(D:Int))=((1+D:Nat):Int) by rw[Wv _ atJ];omega);have Ph:(1+D=D1∧(D0:Int)<wrap64 (1+(D:Int)))∨(D0=D1∧wrap64 (1+(D:Int))≤(D0:Int)):=by
    rw[a7.out];by_cases h:D0<1+D
    ·rw[if_pos h]at Vp;exact .inl ⟨Vp.symm,asB⟩
    ·rw[if_neg h]at Vp;exact .inr ⟨Vp.symm,asB⟩
   have hD1':=Zf hD1;have Yo:∀y,Yg (plus W y) (a.add (k*9)) e.cells:=fun y=>aua;obtain⟨eop,⟨elw,elh,ell⟩,ehd,enm,eeh,eel,ep,ecap,eargs⟩:=e;open Z renaming aej→Gq in exact EQ
  ·obtain rfl:k=n:=by omega
   have VJ:Ex.dps 1 (args.take k)=Ex.dps 1 args:=by rw[List.take_of_length_le (by rw[ZO.out];exact Zt _)]
   rw[VJ];clear VJ ZC hk;exact Kk
def Vb{α:Type}(f:α→α→Bool):List α→List α→Bool
 | [],[]=>true
 | a :: l,b :: r=>f a b&&Vb f l r
 | [],_ :: _=>false
 | _ :: _,[]=>false
theorem lC{α:Type}(f:α→α→Bool)(l r:List α)(k:Nat)(x y:α)(hx:l[k]?=some x)(hy:r[k]?=some y):Vb f (l.drop k) (r.drop k)=(f x y&&Vb f (l.drop (k+1)) (r.drop (k+1))):=by
 obtain⟨h1,rfl⟩:=Zi.1 hx;obtain⟨h2,rfl⟩:=Zi.1 hy;rw[List.drop_eq_getElem_cons h1,List.drop_eq_getElem_cons h2,Vb]
theorem CZ{α:Type}(f:α→α→Bool):∀l r:List α,l.length≠r.length→Vb f l r=false
 | [],[],h=>by simp at h
 | [],_ :: _,_=>by rw[Vb]
 | _ :: _,[],_=>by rw[Vb]
 | a :: l,b :: r,h=>by
  rw[Vb,CZ f l r asN,Bool.and_false]
def Ex.top(a b:Ex):Bool:=a.op==b.op&&(a.lit.w==b.lit.w&&(a.lit.h==b.lit.h&&a.lit.l==b.lit.l))&&a.head.toList==b.head.toList&&a.name.toList==b.name.toList&&a.hi==b.hi&&a.lo==b.lo
mutual
/-- The same? -/
def Ex.same:Ex→Ex→Bool
 | .mk op lit hd nm h l _ _ args,b=>Ex.top (.mk op lit hd nm h l none 0 []) b&&Ex.sames args b.args
def Ex.sames:List Ex→List Ex→Bool
 | [],[]=>true
 | a :: l,b :: r=>a.same b&&Ex.sames l r
 | [],_ :: _=>false
 | _ :: _,[]=>false
end
theorem Ex.same_eq(a b:Ex):a.same b=(Ex.top a b&&Ex.sames a.args b.args):=by cases a;rw[Ex.same];rfl
theorem FG(w:World)(y:ZH)(a b:Obj):∃x,((plus w y).alloc a).alloc b=plus w x:=by
 obtain⟨z,hz⟩:=Yy (((Zb (plus w y).heap.size (plus w y)).alloc (Zt _) a).alloc asD b);rw[hz,ZD];exact⟨_,rfl⟩
theorem bE(a b:Ex)(w:World)(s)(h:∀y,Calls Zx 219 #[.slice a.p a.args.length a.cap,.slice b.p b.args.length b.cap] (plus w y) fun r w'=>r=.returned (.bool s)∧∃x,w'=plus w x) :
  Wo Zx w 203 #[a.val,b.val] (.bool (Ex.top a b&&s)):=by
 intro y0;obtain⟨op,⟨lw,lh,ll⟩,hd,nm,eh,el,p,cap,args⟩:=a;obtain⟨op2,⟨lw2,lh2,ll2⟩,XU,WW,eh2,el2,p2,cap2,args2⟩:=b;show Calls Zx 203 #[.agg #[.int .u8 op,.int .i64 lw,.int .u64 lh,.int .u64 ll,.string hd,.string nm,.int .i64 eh,.int .i64 el,.slice p args.length cap],.agg #[.int .u8 op2,.int .i64 lw2,.int .u64 lh2,.int .u64 ll2,.string XU,.string WW,.int .i64 eh2,.int .i64 el2,.slice p2 args2.length cap2]] (plus w y0) fun e w'=>e=.returned (.bool ((op==op2&&(lw==lw2&&(lh==lh2&&ll==ll2))&&hd.toList==XU.toList&&nm.toList==WW.toList&&eh==eh2&&el==el2)&&s))∧∃x,w'=plus w x
 simp only[Ex.p,Ex.args,Ex.cap]at h;generalize args.length=n1 at h ⊢;generalize args2.length=n2 at h ⊢;by_cases YN:op=op2
 case neg =>
  have hF:=Zf (show false=((op==op2&&(lw==lw2&&(lh==lh2&&ll==ll2))&&hd.toList==XU.toList&&nm.toList==WW.toList&&eh==eh2&&el==el2)&&s) by simp[YN]);exact O9
 subst YN;by_cases YN:lw=lw2
 case neg =>
  have hF:=Zf (show false=((op==op&&(lw==lw2&&(lh==lh2&&ll==ll2))&&hd.toList==XU.toList&&nm.toList==WW.toList&&eh==eh2&&el==el2)&&s) by simp[YN]);exact O9
 subst YN;by_cases YN:lh=lh2
 case neg =>
  have hF:=Zf (show false=((op==op&&(lw==lw&&(lh==lh2&&ll==ll2))&&hd.toList==XU.toList&&nm.toList==WW.toList&&eh==eh2&&el==el2)&&s) by simp[YN]);exact O9
 subst YN;by_cases YN:ll=ll2
 case neg =>
  have hF:=Zf (show false=((op==op&&(lw==lw&&(lh==lh&&ll==ll2))&&hd.toList==XU.toList&&nm.toList==WW.toList&&eh==eh2&&el==el2)&&s) by simp[YN]);exact O9
 subst YN;by_cases YN:(hd.toList==XU.toList)=true
 case neg =>
  have YN:(hd.toList==XU.toList)=false:=by simpa using YN
  exact D7
 have e_hd:=YN;clear YN;by_cases YN:(nm.toList==WW.toList)=true
 case neg =>
  have YN:(nm.toList==WW.toList)=false:=by simpa using YN
  exact D7
 have e_nm:=YN;clear YN;by_cases YN:eh=eh2
 case neg =>
  exact D7
 subst YN;by_cases YN:el=el2
 case neg =>
  have hF:=Zf (show false=((op==op&&(lw==lw&&(lh==lh&&ll==ll))&&hd.toList==XU.toList&&nm.toList==WW.toList&&eh==eh&&el==el2)&&s) by simp[YN]);exact O9
 subst YN;have hF:=Zf (show s=((op==op&&(lw==lw&&(lh==lh&&ll==ll))&&hd.toList==XU.toList&&nm.toList==WW.toList&&eh==eh&&el==el)&&s) by simp[e_hd,e_nm]);have h':=Zf h;clear h;go_enter func203,ntmps203;go_wp2_with fail;obtain⟨z,hz⟩:=FG w y0 (.cells #[.int .u8 op,.int .i64 lw,.int .u64 lh,.int .u64 ll,.string hd,.string nm,.int .i64 eh,.int .i64 el,.slice p n1 cap] 45) (.cells #[.int .u8 op,.int .i64 lw,.int .u64 lh,.int .u64 ll,.string XU,.string WW,.int .i64 eh,.int .i64 el,.slice p2 n2 cap2] 45);rw[hz];refine (h'.out _).mono ?_;rintro r w' ⟨rfl,x,rfl⟩;go_wp2;go_ret;exact⟨congrArg (fun z=>Zd (Zy z)) hF.out,x,rfl⟩
theorem Ex.sames_drop(l r:List Ex)(k:Nat)(x y:Ex)(hx:l[k]?=some x)(hy:r[k]?=some y):Ex.sames (l.drop k) (r.drop k)=(x.same y&&Ex.sames (l.drop (k+1)) (r.drop (k+1))):=by
 obtain⟨h1,rfl⟩:=Zi.1 hx;obtain⟨h2,rfl⟩:=Zi.1 hy;rw[List.drop_eq_getElem_cons h1,List.drop_eq_getElem_cons h2,Ex.sames]
theorem Ex.sames_length:∀l r:List Ex,l.length≠r.length→Ex.sames l r=false
 | [],[],h=>by simp at h
 | [],_ :: _,_=>by rw[Ex.sames]
 | _ :: _,[],_=>by rw[Ex.sames]
 | a :: l,b :: r,h=>by
  rw[Ex.sames,Ex.sames_length l r asN,Bool.and_false]
def Hy(a b:Ex):Prop:=∀w:World,a.In w→b.In w→a.wt≤1048576→b.wt≤1048576→Wo Zx w 203 #[a.val,b.val] (.bool (a.same b))
theorem bF(A B:Sl Ex)(w:World)(ih:∀x∈A.l,∀y∈B.l,Hy x y)(hA:A.In w 9 Ex.cells (Ex.In w))(hB:B.In w 9 Ex.cells (Ex.In w))(bA:A.size Ex.wt≤1048576)(bB:B.size Ex.wt≤1048576) :
  Wo Zx w 219 #[A.v,B.v] (.bool (Ex.sames A.l B.l)):=by
 intro y0;obtain⟨p,cap,l⟩:=A;obtain⟨q,cbp,r⟩:=B;simp only[Sl.size,Sl.v]at bA bB ih ⊢;have hl:l.length≤1048576:=by have:=XM Ex.wt Ex.wt_pos l;omega
 obtain⟨n,hn⟩:=ZB l.length;obtain⟨m,hm⟩:=ZB r.length;have hA:=hA.plus (fun _ a=>a.plus y0) y0;have hB:=hB.plus (fun _ a=>a.plus y0) y0;obtain⟨W,hW⟩:=ZB (plus w y0);rw[hW]at hA hB ⊢;have Uq:=Zf hW;rw[hn]at hl;by_cases YN:n=m
 case neg =>
  have hF:=Zf (show false=Ex.sames l r from (Ex.sames_length l r asB).symm);rw[hn,hm];clear ih hA hB bA bB hW hl hn hm;go_enter func219,ntmps219;go_wp2;go_ret;exact⟨congrArg (fun z=>Zd (Zy z)) hF.out,_,Uq.out.symm⟩
 subst YN;rw[hn,hm];obtain⟨R,hR⟩:=ZB (Ex.sames l r);rw[hR];have h0:Ex.sames (l.drop 0) (r.drop 0)=R:=hR;have ih':=Zf ih;have YV:=Zf hA;have XI:=Zf hB;have bA':=Zf bA;have bB':=Zf bB;have ZO:=Zf hn;have UR:=Zf hm;have Yt:=Zf hl;have YM:=Zf h0;clear ih hA hB bA bB hW hl hn hm hR h0;go_enter func219,ntmps219;go_wp2;go_loopw [5] (fun iv wr=>∃k:Nat,k≤n∧iv=.int .i64 (k:Int)∧Hid (Ex.sames (l.drop k) (r.drop k)=R)∧∃y,wr=plus W y) (fun iv _=>n-(intOf iv).toNat)
 case atStart=>exact⟨0,Zw _,rfl,YM,⟨#[],W.drawn⟩,(Yk W).symm⟩
 case round =>
  obtain⟨k,hk,rfl,hs,y,rfl⟩:=hrel;by_cases ZC:k<n
  ·obtain⟨a,ha⟩:=Yq l k asG
   obtain⟨b,hb⟩:=Yq r k (by rw[UR.out];exact ZC);obtain⟨pa,rfl,hc⟩:=YV.out.row k a ha;obtain⟨pb,rfl,hd⟩:=XI.out.row k b hb;have Ti:a∈l:=Zo ha;have hmb:b∈r:=Zo hb;have q1:=ih'.out a Ti b hmb W (YV.out.kids a Ti) (XI.out.kids b hmb) (Nat.le_trans (YW Ex.wt l a Ti) bA'.out) (Nat.le_trans (YW Ex.wt r b hmb) bB'.out);have ZQ:(a.same b&&Ex.sames (l.drop (k+1)) (r.drop (k+1)))=R:=by rw[←Ex.sames_drop l r k a b ha hb];exact hs.out
   obtain⟨Z,hZ⟩:=ZB (a.same b);rw[hZ]at q1 ZQ;obtain⟨op,⟨lw,lh,ll⟩,hd1,nm,eh,el,ep,ecap,args⟩:=a;obtain⟨op2,⟨lw2,lh2,ll2⟩,XU,WW,eh2,el2,ep2,ecap2,args2⟩:=b;have q1:Wo Zx W 203 #[.agg #[.int .u8 op,.int .i64 lw,.int .u64 lh,.int .u64 ll,.string hd1,.string nm,.int .i64 eh,.int .i64 el,.slice ep args.length ecap],.agg #[.int .u8 op2,.int .i64 lw2,.int .u64 lh2,.int .u64 ll2,.string XU,.string WW,.int .i64 eh2,.int .i64 el2,.slice ep2 args2.length ecap2]] _:=q1;open Z renaming aqv→N6 in exact MI
  ·obtain rfl:k=n:=by omega
   have ZP:=Zf (show true=R by
    rw[←hs.out,List.drop_of_length_le asV,List.drop_of_length_le (by rw[UR.out];exact Zt _),Ex.sames])
   clear hs ZC hk;go_wp2;go_ret;exact⟨congrArg (fun z=>Zd (Zy z)) ZP.out,aub⟩
theorem bD:∀a b:Ex,Hy a b:=fun a=>Ex.ind (Q:=fun a=>∀b,Hy a b) (fun a ih b w ha hb wa wb=>by
 rw[Ex.same_eq];have h1:=ha;have h2:=hb;obtain⟨_,_,_,_,_,_,_,l1,c1,r1,ZL⟩:=h1;obtain⟨_,_,_,_,_,_,_,l2,c2,r2,ZT⟩:=h2;have e1:=Ex.wt_eq a;have e2:=Ex.wt_eq b;exact bE a b w _ (bF ⟨a.p,a.cap,a.args⟩ ⟨b.p,b.cap,b.args⟩ w (fun x hx y _=>ih x hx y) ⟨l1,c1,r1,ZL⟩ ⟨l2,c2,r2,ZT⟩ (show (a.args.map Ex.wt).sum≤_ by omega) (show (b.args.map Ex.wt).sum≤_ by omega))) a
mutual
/-- The same? -/
def St.same:St→St→Bool
 | .mk k hd nm e _ _ thn _ _ els,b=>k==b.kind&&(hd.toList==b.head.toList&&(nm.toList==b.name.toList&&(e.same b.e&&(St.sames thn b.thn&&St.sames els b.els))))
def St.sames:List St→List St→Bool
 | [],[]=>true
 | a :: l,b :: r=>a.same b&&St.sames l r
 | [],_ :: _=>false
 | _ :: _,[]=>false
end
theorem St.sames_drop(l r:List St)(k:Nat)(x y:St)(hx:l[k]?=some x)(hy:r[k]?=some y):St.sames (l.drop k) (r.drop k)=(x.same y&&St.sames (l.drop (k+1)) (r.drop (k+1))):=by
 obtain⟨h1,rfl⟩:=Zi.1 hx;obtain⟨h2,rfl⟩:=Zi.1 hy;rw[List.drop_eq_getElem_cons h1,List.drop_eq_getElem_cons h2,St.sames]
theorem St.sames_length:∀l r:List St,l.length≠r.length→St.sames l r=false
 | [],[],h=>by simp at h
 | [],_ :: _,_=>by rw[St.sames]
 | _ :: _,[],_=>by rw[St.sames]
 | a :: l,b :: r,h=>by
  rw[St.sames,St.sames_length l r asN,Bool.and_false]
def Ov(W U:World):Prop:=∃z,U=plus W z
theorem Ov.start(W:World)(y:ZH):Ov W (plus W y):=⟨y,rfl⟩
theorem Ov.drew{W U:World}(h:Ov W U):Ov W U.drew:=by
 obtain⟨z,rfl⟩:=h;exact⟨⟨z.blocks,z.draws+1⟩,rfl⟩
theorem Ov.alloc{W U:World}(h:Ov W U)(o:Obj):Ov W (U.alloc o):=by
 obtain⟨z,rfl⟩:=h;obtain⟨y,hy⟩:=Yy ((Zb (plus W z).heap.size (plus W z)).alloc (Zt _) o);exact⟨_,hy.trans (ZD _ _ _)⟩
theorem bZ{w:World}{a:Addr}{v:Value}(h:w.cell? a=some v):a.spot=none:=by
 obtain⟨b,o,sp⟩:=a;cases sp with
 | none=>rfl
 | some q =>
  exfalso;unfold World.cell? at h;revert h;simp only;split <;> simp
theorem Xa.base{α:Type}{w:World}{C:Nat}{cells:α→List Value}{p:Option Addr}{l:List α}{x:α}{v:Value}(h:Xa w C cells p l)(hx:l[0]?=some x)(hc:(cells x)[0]?=some v):∃g o,p=some ⟨g,o,none⟩:=by
 obtain⟨a,ha,V9⟩:=h 0 x hx;have h1:=V9 0 v hc;rw[Nat.zero_mul]at h1;have h2:w.cell? a=some v:=h1;have h3:=bZ h2;obtain⟨b,o,sp⟩:=a;simp only at h3;subst h3;exact⟨b,o,ha⟩
abbrev Kp(P:Program)(w:World)(f:FuncId)(args:Array Value)(v:Value):Prop:=∀y,Calls P f args (plus w y) fun e w'=>e=.returned v∧∃x,w'=plus (plus w y) x
section
variable {P:Program} {w:World} {f:FuncId} {args:Array Value} {v:Value}
theorem Kp.up(h:Kp P w f args v)(z:ZH):Kp P (plus w z) f args v:=fun y=>by
 rw[ZD];exact h _
theorem Kp.pure(h:Kp P w f args v):Wo P w f args v:=fun y=>(h y).mono fun _ _ ⟨he,x,hx⟩=>⟨he,by rw[hx,ZD];exact⟨_,rfl⟩⟩
theorem Kp.of(h:∀w',(∃y,w'=plus w y)→Calls P f args w' fun e w''=>e=.returned v∧∃x,w''=plus w' x):Kp P w f args v:=fun y=>h _ ⟨y,rfl⟩
theorem Kp.ofPure(h:∀y,Wo P (plus w y) f args v):Kp P w f args v:=fun y=>by
 have:=h y ⟨#[],(plus w y).drawn⟩;rwa [Yk]at this
theorem Kp.eqv{v':Value}(h:Kp P w f args v)(e:v=v'):Kp P w f args v':=e▸h
end
theorem yB{P:Program}{W:World}{f:FuncId}{args:Array Value}{v:Value}(h:Wo P W f args v){y:ZH}{a b:Obj}{Q:Ending→World→Prop}(hQ:∀e w',(e=.returned v∧∃x,w'=plus W x)→Q e w') :
  Calls P f args (((plus W y).alloc a).alloc b) Q:=by
 obtain⟨z,hz⟩:=FG W y a b;rw[hz];exact (h z).mono hQ
theorem Qy(w:World)(y:ZH)(a:Obj):∃x,(plus w y).alloc a=plus w x:=by
 obtain⟨z,hz⟩:=Yy ((Zb (plus w y).heap.size (plus w y)).alloc (Zt _) a);rw[hz,ZD];exact⟨_,rfl⟩
theorem Pw{P:Program}{W:World}{f:FuncId}{args:Array Value}{v:Value}(h:Wo P W f args v){y:ZH}{a:Obj}{Q:Ending→World→Prop}(hQ:∀e w',(e=.returned v∧∃x,w'=plus W x)→Q e w') :
  Calls P f args ((plus W y).alloc a) Q:=by
 obtain⟨z,hz⟩:=Qy W y a;rw[hz];exact (h z).mono hQ
theorem YG{w:World}{a:Addr}{v:Value}(h:w.cell? a=some v)(x:Obj):(w.alloc x).cell? a=some v:=by
 obtain⟨z,hz⟩:=Qy w ⟨#[],w.drawn⟩ x;rw[Yk]at hz;rw[hz];exact ZS h z
def LK(l:List Value):Prop:=∃(c0:ByteArray) (c1:Int),l=[.string c0,.int .i64 c1]
def LL(l:List Value):Prop:=∃(c0:ByteArray) (c1p:Option Addr) (c1n:Nat) (c1c:Nat),l=[.string c0,.slice c1p c1n c1c]
def xh(l:List Value):Prop:=∃(c0:Int) (c1:Int) (c2:Int),l=[.int .i64 c0,.int .u64 c1,.int .u64 c2]
def J3(l:List Value):Prop:=∃(c0:Int) (c1:Int) (c2:Int) (c3:Int) (c4:ByteArray) (c5:ByteArray) (c6:Int) (c7:Int) (c8p:Option Addr) (c8n:Nat) (c8c:Nat),l=[.int .u8 c0,.int .i64 c1,.int .u64 c2,.int .u64 c3,.string c4,.string c5,.int .i64 c6,.int .i64 c7,.slice c8p c8n c8c]
def xi(l:List Value):Prop:=∃(c0:Int) (c1:Int) (c2:Int) (c3:Int) (c4:Int) (c5:Int) (c6:Int),l=[.int .u8 c0,.int .i64 c1,.int .u64 c2,.int .u64 c3,.int .i64 c4,.int .u64 c5,.int .u64 c6]
def xf(l:List Value):Prop:=∃(c0:Bool) (c1p:Option Addr) (c1n:Nat) (c1c:Nat) (c2:ByteArray),l=[.bool c0,.slice c1p c1n c1c,.string c2]
def LM(l:List Value):Prop:=∃(c0:ByteArray) (c1p:Option Addr) (c1n:Nat) (c1c:Nat) (c2:ByteArray) (c3p:Option Addr) (c3n:Nat) (c3c:Nat) (c4p:Option Addr) (c4n:Nat) (c4c:Nat),l=[.string c0,.slice c1p c1n c1c,.string c2,.slice c3p c3n c3c,.slice c4p c4n c4c]
def J4(l:List Value):Prop:=∃(c0:Int) (c1:ByteArray) (c2:ByteArray) (c3:Int) (c4:Int) (c5:Int) (c6:Int) (c7:ByteArray) (c8:ByteArray) (c9:Int) (c10:Int) (c11p:Option Addr) (c11n:Nat) (c11c:Nat) (c12p:Option Addr) (c12n:Nat) (c12c:Nat) (c13p:Option Addr) (c13n:Nat) (c13c:Nat),l=[.int .u8 c0,.string c1,.string c2,.int .u8 c3,.int .i64 c4,.int .u64 c5,.int .u64 c6,.string c7,.string c8,.int .i64 c9,.int .i64 c10,.slice c11p c11n c11c,.slice c12p c12n c12c,.slice c13p c13n c13c]
def LJ(l:List Value):Prop:=∃(c0:ByteArray) (c1p:Option Addr) (c1n:Nat) (c1c:Nat) (c2p:Option Addr) (c2n:Nat) (c2c:Nat),l=[.string c0,.slice c1p c1n c1c,.slice c2p c2n c2c]
def xg(l:List Value):Prop:=∃(c0:Int) (c1:Int) (c2:Int) (c3:Int) (c4:ByteArray) (c5:ByteArray) (c6:Int) (c7:Int) (c8p:Option Addr) (c8n:Nat) (c8c:Nat) (c9:Int),l=[.int .u8 c0,.int .i64 c1,.int .u64 c2,.int .u64 c3,.string c4,.string c5,.int .i64 c6,.int .i64 c7,.slice c8p c8n c8c,.int .u8 c9]
def LN(l:List Value):Prop:=∃(c0:ByteArray) (c1p:Option Addr) (c1n:Nat) (c1c:Nat) (c2p:Option Addr) (c2n:Nat) (c2c:Nat) (c3:ByteArray) (c4p:Option Addr) (c4n:Nat) (c4c:Nat),l=[.string c0,.slice c1p c1n c1c,.slice c2p c2n c2c,.string c3,.slice c4p c4n c4c]
def Xe{α:Type}(lo hi:Int)(may:α→Bool)(l:List α):Bool:=decide (lo≤(l.length:Int))&&decide ((l.length:Int)≤hi)&&l.all may
theorem U9{α:Type}(f:α→Bool)(l:List α)(k:Nat)(x:α)(hx:l[k]?=some x):(l.drop k).all f=(f x&&(l.drop (k+1)).all f):=by
 obtain⟨h1,rfl⟩:=Zi.1 hx;rw[List.drop_eq_getElem_cons h1,List.all_cons]
theorem oS(V:World):∃x,V=plus V x:=⟨_,(Yk V).symm⟩
theorem MQ(V:World)(a:Obj):∃x,V.alloc a=plus V x:=Yy ((Zb _ V).alloc (Zt _) a)
theorem MR(V:World)(a b:Obj):∃x,(V.alloc a).alloc b=plus V x:=Yy (((Zb _ V).alloc (Zt _) a).alloc asD b)
theorem KH{P:Program}{V:World}{f:FuncId}{args:Array Value}{v:Value}(h:Kp P V f args v):Calls P f args V fun e w'=>e=.returned v∧∃x,w'=plus V x:=by
 exact Cb
theorem ZK{P:Program}{V W:World}{z:ZH}{f:FuncId}{args:Array Value}{v:Value}(hz:W=plus V z)(h:Kp P V f args v):Wo P W f args v:=by
 rw[hz];exact (h.up z).pure
theorem YO(V:World)(c:Array Value)(t:TypeId):∃W y,V.alloc (.cells c t)=plus W y∧(∃z,W=plus V z)∧(∀o v,c[o]?=v→∀y,(plus W y).cell? ⟨V.heap.size,o,none⟩=v):=by
 obtain⟨W,hW,hB,hs,ca,fa⟩:=WS V c t;exact⟨W,⟨#[],W.drawn⟩,by rw[Yk,hW],Yy hB,ca⟩
theorem Xu(V:World)(c d:Array Value)(t u:TypeId):∃W y,(V.alloc (.cells c t)).alloc (.cells d u)=plus W y∧(∃z,W=plus V z)∧(∀o v,c[o]?=v→∀y,(plus W y).cell? ⟨V.heap.size,o,none⟩=v)∧(∀o v,d[o]?=v→∀y,(plus W y).cell? ⟨V.heap.size+1,o,none⟩=v):=by
 obtain⟨W,hW,hB,hs,ca,cb,fa,fb⟩:=QM V c d t u;exact⟨W,⟨#[],W.drawn⟩,by rw[Yk,hW],Yy hB,ca,cb⟩
theorem Tu{V W:World}{z:ZH}{a:Addr}{v:Value}(hz:W=plus V z)(h:V.cell? a=some v):W.cell? a=some v:=by rw[hz];exact ZS h z
end Go.Proofs.YtknmeggfokpbjaaGreat

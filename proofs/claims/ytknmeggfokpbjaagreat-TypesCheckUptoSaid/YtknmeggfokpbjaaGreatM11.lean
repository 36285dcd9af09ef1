/-
  WHAT IS PROVED HERE: a part of the proof (made narrower and merged by program; the parts: Va Vk).
-/
import Derived.Test.YtknmeggfokpbjaaGreatM5
import Derived.Test.YtknmeggfokpbjaaGreatM10
set_option maxRecDepth 100000
set_option maxHeartbeats 8000000
set_option linter.all false
namespace Go.Proofs.YtknmeggfokpbjaaGreat
open Z
open Go.RowKit Go.Proofs.Tryz
open Below renaming refl→Zb
open Bool renaming and_eq_true→Zc
open Lib renaming hid→Zf
open List renaming map_cons→Zm,mem_of_getElem?→Zo
open Nat renaming le_refl→Zt
open Go.Proofs.Tryz renaming prog→Zx
open Go.RowKit
structure Ty where
 w:Int
 tr:Bool
 fr:Bool
def Ty.cells(t:Ty):List Value:=[.int .i64 t.w,.bool t.tr,.bool t.fr]
def Ty.v(t:Ty):Value:=.agg #[.int .i64 t.w,.bool t.tr,.bool t.fr]
def XH:Ty:=⟨0,false,false⟩
def XN(w:Int):Ty:=⟨w,false,false⟩
def Yz(t:Ty):Int:=if t.tr then 9 else if t.fr then 10 else 0
def TE(l:List Fd)(i:Int):Int:=match l[i.toNat]? with|some y=>y.w|none=>0
def TM(p:Pr)(h f:Int):Int:=match p.headers.l[h.toNat]? with|some x=>TE x.fields.l f|none=>0
def QI(p:Pr)(a f:Int):Int:=match p.actions.l[a.toNat]? with|some x=>TE x.params.l f|none=>0
def XS(p:Pr)(act:Int)(op w:Int)(hd nm:ByteArray):Int × Ty :=
 if op=1 then (0,⟨w,false,w==0⟩)
 else if op=2 then (if X5 p (YF p.headers.l hd) nm=-1 then (7,XH) else (0,XN (TM p (YF p.headers.l hd) (X5 p (YF p.headers.l hd) nm))))
 else if op=3 then (if Xv p.metas.l nm=-1 then (7,XH) else (0,XN (TE p.metas.l (Xv p.metas.l nm))))
 else if op=4 then (if WN p act nm=-1 then (7,XH) else (0,XN (QI p act (WN p act nm))))
 else if op=6 then (if YF p.headers.l hd=-1 then (7,XH) else (0,⟨0,true,false⟩))
 else (0,XN 9)
def WI(n:Nat)(k:Int):Bool:=decide (n % 2 ^ hw k=n)
mutual
/-- The number at the end of signs. -/
def Ex.free:Ex→Nat
 | .mk op lit _ _ _ _ _ _ l=>if op=1 then lit.n else Ex.frees l
def Ex.frees:List Ex→Nat
 | []=>0
 | x :: _=>x.free
end
theorem Ex.free_eq(e:Ex):e.free=if e.op=1 then e.lit.n else Ex.frees e.args:=by cases e;rw[Ex.free];rfl
mutual
/-- Is it signs ahead of a number? -/
def Ex.chain:Ex→Bool
 | .mk op _ _ _ _ _ _ _ l=>op==1||Ex.chains l
def Ex.chains:List Ex→Bool
 | []=>false
 | x :: _=>x.chain
end
theorem Ex.chain_eq(e:Ex):e.chain=(e.op==1||Ex.chains e.args):=by cases e;rw[Ex.chain];rfl
def V0(op hi lo:Int)(t:Ty):Int × Ty :=
 if op=9 then (if t.tr then (0,t) else (9,XH))
 else if op=10 then (if Yz t≠0 then (Yz t,XH) else if t.w≤hi then (5,XH) else (0,XN (hi-lo+1)))
 else if t.tr then (9,XH) else (0,t)
def WC(n m:Nat)(s t:Ty):Int × Int :=
 if s.tr||t.tr then (9,0)
 else if s.fr&&t.fr then (10,0)
 else if s.fr then (if WI n t.w then (0,t.w) else (5,0))
 else if t.fr then (if WI m s.w then (0,s.w) else (5,0))
 else if s.w=t.w then (0,s.w) else (10,0)
def SP(op:Int)(n m:Nat)(s t:Ty):Int × Ty :=
 if op=25∨op=26 then (if s.tr&&t.tr then (0,s) else (9,XH))
 else if op=11 then (if Yz s≠0 then (Yz s,XH) else if Yz t≠0 then (Yz t,XH) else if 128<s.w+t.w then (5,XH) else (0,XN (s.w+t.w)))
 else if (WC n m s t).1≠0 then ((WC n m s t).1,XH)
 else if 19≤op∧op≤24 then (0,⟨0,true,false⟩) else (0,XN (WC n m s t).2)
def R7(p:Pr)(act:Int)(op w:Int)(hd nm:ByteArray)(hi lo:Int):List ((Int × Ty) × Nat)→Int × Ty
 | []=>XS p act op w hd nm
 | (r,n) :: l =>
  if r.1≠0 then (r.1,XH)
  else if op=14∨op=15 then (if Yz r.2≠0 then (Yz r.2,XH) else (0,r.2))
  else match l with
   | []=>V0 op hi lo r.2
   | (s,m) :: _=>if s.1≠0 then (s.1,XH) else SP op n m r.2 s.2
mutual
def Ex.ty(p:Pr)(act:Int):Ex→Int × Ty
 | .mk op lit hd nm hi lo _ _ l=>R7 p act op lit.w hd nm hi lo (Ex.tys p act l)
def Ex.tys(p:Pr)(act:Int):List Ex→List ((Int × Ty) × Nat)
 | []=>[]
 | x :: l=>(x.ty p act,x.free) :: Ex.tys p act l
end
theorem Ex.tys_map(p:Pr)(act:Int):∀l:List Ex,Ex.tys p act l=l.map fun x=>(x.ty p act,x.free)
 | []=>by rw[Ex.tys];rfl
 | x :: l=>by rw[Ex.tys,Ex.tys_map p act l];rfl
theorem Ex.ty_eq(p:Pr)(act:Int)(e:Ex):e.ty p act=R7 p act e.op e.lit.w e.head e.name e.hi e.lo (e.args.map fun x=>(x.ty p act,x.free)):=by
 cases e;rw[Ex.ty,Ex.tys_map];rfl
theorem S6{t:Ty}(h:Yz t=0):t.tr=false∧t.fr=false:=by
 obtain⟨w,tr,fr⟩:=t;unfold Yz at h;cases tr <;> cases fr <;> simp at h ⊢
theorem Ex.ty_fine(p:Pr)(act:Int):∀e:Ex,(e.ty p act).1=0→¬((e.ty p act).2.tr=true∧(e.ty p act).2.fr=true)∧((e.ty p act).2.fr=true→e.chain=true):=fun e=>Ex.ind (Q:=fun e=>(e.ty p act).1=0→¬((e.ty p act).2.tr=true∧(e.ty p act).2.fr=true)∧((e.ty p act).2.fr=true→e.chain=true)) (fun e ih h=>by
 rw[Ex.ty_eq]at h ⊢;rw[Ex.chain_eq];cases hl:e.args with
 | nil =>
  rw[hl]at h;simp only[List.map_nil,R7]at h ⊢;unfold XS at h ⊢;by_cases o1:e.op=1
  ·rw[if_pos o1];simp[o1]
  rw[if_neg o1]at h ⊢;by_cases o2:e.op=2
  ·rw[if_pos o2]at h ⊢
   split at h
   ·simp at h
   ·next q=>rw[if_neg q];simp[XN]
  rw[if_neg o2]at h ⊢;by_cases o3:e.op=3
  ·rw[if_pos o3]at h ⊢
   split at h
   ·simp at h
   ·next q=>rw[if_neg q];simp[XN]
  rw[if_neg o3]at h ⊢;by_cases o4:e.op=4
  ·rw[if_pos o4]at h ⊢
   split at h
   ·simp at h
   ·next q=>rw[if_neg q];simp[XN]
  rw[if_neg o4]at h ⊢;by_cases o6:e.op=6
  ·rw[if_pos o6]at h ⊢
   split at h
   ·simp at h
   ·next q=>rw[if_neg q];simp
  rw[if_neg o6];simp[XN]
 | cons a l =>
  have ha:=ih a as1;rw[hl]at h;simp only[Zm,R7,Ex.chains]at h ⊢;obtain⟨⟨ra,ta⟩,hra⟩:∃r,a.ty p act=r:=⟨_,rfl⟩;rw[hra]at h ha ⊢;simp only at h ha ⊢;by_cases r0:ra=0
  ·subst r0
   simp only[ne_eq,not_true_eq_false,if_false]at h ⊢;obtain⟨i1,i2⟩:=ha rfl;by_cases os:e.op=14∨e.op=15
   ·rw[if_pos os]at h ⊢
    by_cases q:Yz ta=0
    ·obtain⟨t1,t2⟩:=S6 q
     rw[if_neg asW];simp[t1,t2]
    ·rw[if_pos q]at h;exact absurd h q
   rw[if_neg os]at h ⊢;cases l with
   | nil =>
    simp only[List.map_nil]at h ⊢;unfold V0 at h ⊢;by_cases o9:e.op=9
    ·rw[if_pos o9]at h ⊢
     by_cases q:ta.tr=true
     ·rw[if_pos q];exact⟨i1,fun f=>absurd ⟨q,f⟩ i1⟩
     ·rw[if_neg q]at h;simp at h
    rw[if_neg o9]at h ⊢;by_cases o10:e.op=10
    ·rw[if_pos o10]at h ⊢
     by_cases q:Yz ta=0
     ·rw[if_neg asW]at h ⊢
      by_cases q2:ta.w≤e.hi
      ·rw[if_pos q2]at h;simp at h
      ·rw[if_neg q2];simp[XN]
     ·rw[if_pos q]at h;exact absurd h q
    rw[if_neg o10]at h ⊢;by_cases q:ta.tr=true
    ·rw[if_pos q]at h;simp at h
    ·rw[if_neg q]
     exact⟨i1,fun f=>by rw[i2 f,Bool.or_true]⟩
   | cons b l =>
    simp only[Zm]at h ⊢;have hb:=ih b auc;obtain⟨⟨rb,tb⟩,hrb⟩:∃r,b.ty p act=r:=⟨_,rfl⟩;rw[hrb]at h hb ⊢;simp only at h hb ⊢;by_cases r1:rb=0
    ·subst r1
     simp only[not_true_eq_false,if_false]at h ⊢;unfold SP at h ⊢;by_cases o25:e.op=25∨e.op=26
     ·rw[if_pos o25]at h ⊢
      by_cases q:(ta.tr&&tb.tr)=true
      ·rw[if_pos q]
       have q1:ta.tr=true:=by simp at q;exact q.1
       exact⟨i1,fun f=>absurd ⟨q1,f⟩ i1⟩
      ·rw[if_neg q]at h;simp at h
     rw[if_neg o25]at h ⊢;by_cases o11:e.op=11
     ·rw[if_pos o11]at h ⊢
      by_cases q:Yz ta=0
      ·rw[if_neg asW]at h ⊢
       by_cases q2:Yz tb=0
       ·rw[if_neg asL]at h ⊢
        by_cases q3:128<ta.w+tb.w
        ·rw[if_pos q3]at h;simp at h
        ·rw[if_neg q3];simp[XN]
       ·rw[if_pos q2]at h;exact absurd h q2
      ·rw[if_pos q]at h;exact absurd h q
     rw[if_neg o11]at h ⊢;by_cases q:(WC a.free b.free ta tb).1=0
     ·rw[if_neg asW]
      split <;> simp[XN]
     ·rw[if_pos q]at h;exact absurd h q
    ·rw[if_pos (by simpa using r1)]at h;exact absurd h r1
  ·rw[if_pos (by simpa using r0)]at h;exact absurd h r0) e
structure U8 (p:Pr):Prop where
 hd:∀x∈p.headers.l,∀y∈x.fields.l,1≤y.w∧y.w≤128
 mt:∀y∈p.metas.l,1≤y.w∧y.w≤128
 ac:∀x∈p.actions.l,∀y∈x.params.l,1≤y.w∧y.w≤128
theorem H5{y:Fd}(h:VO y=true):1≤y.w∧y.w≤128:=by
 unfold VO PF at h;simp only[Zc,decide_eq_true_eq]at h;exact h.2
theorem Uo{α:Type}{lo hi:Int}{f:α→Bool}{l:List α}(h:Xe lo hi f l=true):∀x∈l,f x=true:=by
 unfold Xe at h;simp only[Zc,decide_eq_true_eq,List.all_eq_true]at h;exact h.2
theorem M0{α:Type}{lo hi:Int}{f:α→Bool}{l:List α}(h:Xe lo hi f l=true):lo≤(l.length:Int)∧(l.length:Int)≤hi:=by
 unfold Xe at h;simp only[Zc,decide_eq_true_eq,List.all_eq_true]at h;exact h.1
theorem xL{p:Pr}(hB:Vr p=true):U8 p:=by
 unfold Vr at hB;simp only[Zc]at hB;obtain⟨hH,hM,-,hA,-⟩:=hB;refine⟨fun x hx y hy=>?_,fun y hy=>H5 (Uo hM y hy),fun x hx y hy=>?_⟩
 ·have h:=Uo hH x hx
  unfold Si at h;simp only[Zc]at h;exact H5 (Uo h.2 y hy)
 ·have h:=Uo hA x hx
  unfold Tr at h;simp only[Zc]at h;exact H5 (Uo h.2.1 y hy)
theorem Be{α:Type}(q:α→Bool)(l:List α)(h:YL q l 0≠-1):∃(i:Nat) (x:α),YL q l 0=(i:Int)∧l[i]?=some x∧q x=true:=by
 have go:∀(l:List α) (k:Nat),YL q l k≠-1→∃(i:Nat) (x:α),YL q l k=((k+i:Nat):Int)∧l[i]?=some x∧q x=true:=by
  intro l;induction l with
  | nil=>intro k h;exact absurd rfl h
  | cons x l ih =>
   intro k h;rw[YL]at h ⊢;by_cases e:q x=true
   ·rw[if_pos e];exact⟨0,x,rfl,rfl,e⟩
   ·rw[if_neg e]at h ⊢
    obtain⟨i,y,h1,h2,h3⟩:=ih (k+1) h;exact⟨i+1,y,by rw[h1];omega,by simpa using h2,h3⟩
 obtain⟨i,x,h1,h2,h3⟩:=go l 0 h;exact⟨i,x,by rw[h1];omega,h2,h3⟩
theorem Nw{l:List Fd}{s:ByteArray}(h:Xv l s≠-1):∃(i:Nat) (y:Fd),Xv l s=(i:Int)∧l[i]?=some y:=by
 obtain⟨i,y,h1,h2,-⟩:=Be _ l h;exact⟨i,y,h1,h2⟩
theorem KI{p:Pr}{h:Int}{s:ByteArray}(hn:X5 p h s≠-1):∃(k:Nat) (x:Hr) (i:Nat) (y:Fd),h=(k:Int)∧p.headers.l[k]?=some x∧X5 p h s=(i:Int)∧x.fields.l[i]?=some y:=by
 unfold X5 at hn ⊢;split at hn
 ·exact absurd rfl hn
 ·next q =>
  rw[if_neg q];cases hx:p.headers.l[h.toNat]? with
  | none=>rw[hx]at hn;exact absurd rfl hn
  | some x =>
   rw[hx]at hn;obtain⟨i,y,h1,h2⟩:=Nw hn;exact⟨h.toNat,x,i,y,asB,hx,h1,h2⟩
theorem yz{p:Pr}{h:Int}{s:ByteArray}(hn:WN p h s≠-1):∃(k:Nat) (x:Ac) (i:Nat) (y:Fd),h=(k:Int)∧p.actions.l[k]?=some x∧WN p h s=(i:Int)∧x.params.l[i]?=some y:=by
 unfold WN at hn ⊢;split at hn
 ·exact absurd rfl hn
 ·next q =>
  rw[if_neg q];cases hx:p.actions.l[h.toNat]? with
  | none=>rw[hx]at hn;exact absurd rfl hn
  | some x =>
   rw[hx]at hn;obtain⟨i,y,h1,h2⟩:=Nw hn;exact⟨h.toNat,x,i,y,asB,hx,h1,h2⟩
theorem Rz{l:List Fd}{i:Nat}{y:Fd}(h:l[i]?=some y):TE l (i:Int)=y.w:=by
 unfold TE;rw[Int.toNat_natCast,h]
theorem bW{n m:Nat}{s t:Ty}(h:(WC n m s t).1=0):s.tr=false∧t.tr=false∧¬(s.fr=true∧t.fr=true)∧((s.fr=true∧(WC n m s t).2=t.w)∨(s.fr=false∧(WC n m s t).2=s.w)):=by
 unfold WC at h ⊢;by_cases q1:(s.tr||t.tr)=true
 ·rw[if_pos q1]at h;simp at h
 rw[if_neg q1]at h ⊢;have q1:s.tr=false∧t.tr=false:=asJ;by_cases q2:(s.fr&&t.fr)=true
 ·rw[if_pos q2]at h;simp at h
 rw[if_neg q2]at h ⊢;have q2:¬(s.fr=true∧t.fr=true):=asL;refine⟨q1.1,q1.2,q2,?_⟩;by_cases q3:s.fr=true
 ·rw[if_pos q3]at h ⊢
  by_cases q4:WI n t.w=true
  ·rw[if_pos q4];exact .inl ⟨q3,rfl⟩
  ·rw[if_neg q4]at h;simp at h
 rw[if_neg q3]at h ⊢;have q3:s.fr=false:=asP;by_cases q5:t.fr=true
 ·rw[if_pos q5]at h ⊢
  by_cases q4:WI m s.w=true
  ·rw[if_pos q4];exact .inr ⟨q3,rfl⟩
  ·rw[if_neg q4]at h;simp at h
 rw[if_neg q5]at h ⊢;by_cases q6:s.w=t.w
 ·rw[if_pos q6];exact .inr ⟨q3,rfl⟩
 ·rw[if_neg q6]at h;simp at h
theorem Ex.ty_wide(p:Pr)(hW:U8 p)(act:Int):∀(e:Ex) (n:Nat),e.may n=true→(e.ty p act).1=0→(e.ty p act).2.tr=false→(e.ty p act).2.fr=false→1≤(e.ty p act).2.w∧(e.ty p act).2.w≤128:=fun e=>Ex.ind (Q:=fun e=>∀n:Nat,e.may n=true→(e.ty p act).1=0→(e.ty p act).2.tr=false→(e.ty p act).2.fr=false→1≤(e.ty p act).2.w∧(e.ty p act).2.w≤128) (fun e ih n hm h h1 h2=>by
 cases n with
 | zero=>simp[Ex.may]at hm
 | succ n =>
 rw[Ex.may]at hm;simp only[Zc]at hm;obtain⟨-,hf,hk⟩:=hm;have Xw:=Uo hk;unfold Ex.fits at hf;simp only[Zc]at hf;obtain⟨WU,-,-,VW,-⟩:=hf;rw[Ex.ty_eq]at h h1 h2 ⊢;cases hl:e.args with
 | nil =>
  rw[hl]at h h1 h2;simp only[List.map_nil,R7]at h h1 h2 ⊢;unfold XS at h h1 h2 ⊢;by_cases o1:e.op=1
  ·rw[if_pos o1]at h2 ⊢
   simp only at h2 ⊢;unfold SO VU at WU;rw[o1]at WU;simp only[beq_self_eq_true,if_true]at WU;unfold UX PF at WU;rw[h2]at WU;simp only[Bool.false_or,Zc,decide_eq_true_eq]at WU;exact WU.1
  rw[if_neg o1]at h h1 h2 ⊢;by_cases o2:e.op=2
  ·rw[if_pos o2]at h h1 h2 ⊢
   by_cases q:X5 p (YF p.headers.l e.head) e.name=-1
   ·rw[if_pos q]at h;simp at h
   ·rw[if_neg q]
    obtain⟨k,x,i,y,g1,g2,g3,g4⟩:=KI q;rw[g3,g1];show 1≤TM p (k:Int) (i:Int)∧TM p (k:Int) (i:Int)≤128
    unfold TM;rw[Int.toNat_natCast,g2];show 1≤TE x.fields.l (i:Int)∧TE x.fields.l (i:Int)≤128
    rw[Rz g4];exact hW.hd x (Zo g2) y (Zo g4)
  rw[if_neg o2]at h h1 h2 ⊢;by_cases o3:e.op=3
  ·rw[if_pos o3]at h h1 h2 ⊢
   by_cases q:Xv p.metas.l e.name=-1
   ·rw[if_pos q]at h;simp at h
   ·rw[if_neg q]
    obtain⟨i,y,g3,g4⟩:=Nw q;rw[g3];show 1≤TE p.metas.l (i:Int)∧TE p.metas.l (i:Int)≤128
    rw[Rz g4];exact hW.mt y (Zo g4)
  rw[if_neg o3]at h h1 h2 ⊢;by_cases o4:e.op=4
  ·rw[if_pos o4]at h h1 h2 ⊢
   by_cases q:WN p act e.name=-1
   ·rw[if_pos q]at h;simp at h
   ·rw[if_neg q]
    obtain⟨k,x,i,y,g1,g2,g3,g4⟩:=yz q;rw[g3,g1];show 1≤QI p (k:Int) (i:Int)∧QI p (k:Int) (i:Int)≤128
    unfold QI;rw[Int.toNat_natCast,g2];show 1≤TE x.params.l (i:Int)∧TE x.params.l (i:Int)≤128
    rw[Rz g4];exact hW.ac x (Zo g2) y (Zo g4)
  rw[if_neg o4]at h h1 h2 ⊢;by_cases o6:e.op=6
  ·rw[if_pos o6]at h h1 h2
   by_cases q:YF p.headers.l e.head=-1
   ·rw[if_pos q]at h;simp at h
   ·rw[if_neg q]at h1;simp at h1
  rw[if_neg o6];simp[XN]
 | cons a l =>
  have ka:=ih a as1 n (Xw a as1);have fa:=Ex.ty_fine p act a;rw[hl]at h h1 h2;simp only[Zm,R7]at h h1 h2 ⊢;obtain⟨⟨ra,ta⟩,hra⟩:∃r,a.ty p act=r:=⟨_,rfl⟩;rw[hra]at h h1 h2 ka fa ⊢;simp only at h h1 h2 ka fa ⊢;by_cases r0:ra=0
  ·subst r0
   have ka:=ka rfl;simp only[ne_eq,not_true_eq_false,if_false]at h h1 h2 ⊢;by_cases os:e.op=14∨e.op=15
   ·rw[if_pos os]at h h1 h2 ⊢
    by_cases q:Yz ta=0
    ·obtain⟨t1,t2⟩:=S6 q
     rw[if_neg asW];exact ka t1 t2
    ·rw[if_pos q]at h;exact absurd h q
   rw[if_neg os]at h h1 h2 ⊢;cases l with
   | nil =>
    simp only[List.map_nil]at h h1 h2 ⊢;unfold V0 at h h1 h2 ⊢;by_cases o9:e.op=9
    ·rw[if_pos o9]at h h1
     by_cases q:ta.tr=true
     ·rw[if_pos q]at h1;rw[q]at h1;cases h1
     ·rw[if_neg q]at h;simp at h
    rw[if_neg o9]at h h1 h2 ⊢;by_cases o10:e.op=10
    ·rw[if_pos o10]at h h1 h2 ⊢
     by_cases q:Yz ta=0
     ·rw[if_neg asW]at h h1 h2 ⊢
      by_cases q2:ta.w≤e.hi
      ·rw[if_pos q2]at h;simp at h
      ·rw[if_neg q2]
       unfold Sw Vs at VW;rw[o10]at VW;simp only[beq_self_eq_true,if_true,Zc,decide_eq_true_eq]at VW;simp only[XN];omega
     ·rw[if_pos q]at h;exact absurd h q
    rw[if_neg o10]at h h1 h2 ⊢;by_cases q:ta.tr=true
    ·rw[if_pos q]at h;simp at h
    ·rw[if_neg q]at h1 h2 ⊢
     exact ka h1 h2
   | cons b l =>
    simp only[Zm]at h h1 h2 ⊢;have kb:=ih b auc n (Xw b auc);obtain⟨⟨rb,tb⟩,hrb⟩:∃r,b.ty p act=r:=⟨_,rfl⟩;rw[hrb]at h h1 h2 kb ⊢;simp only at h h1 h2 kb ⊢;by_cases r1:rb=0
    ·subst r1
     have kb:=kb rfl;simp only[not_true_eq_false,if_false]at h h1 h2 ⊢;unfold SP at h h1 h2 ⊢;by_cases o25:e.op=25∨e.op=26
     ·rw[if_pos o25]at h h1 h2
      by_cases q:(ta.tr&&tb.tr)=true
      ·rw[if_pos q]at h1
       have q1:ta.tr=true:=by simp at q;exact q.1
       rw[q1]at h1;cases h1
      ·rw[if_neg q]at h;simp at h
     rw[if_neg o25]at h h1 h2 ⊢;by_cases o11:e.op=11
     ·rw[if_pos o11]at h h1 h2 ⊢
      by_cases q:Yz ta=0
      ·rw[if_neg asW]at h h1 h2 ⊢
       by_cases q2:Yz tb=0
       ·rw[if_neg asL]at h h1 h2 ⊢
        by_cases q3:128<ta.w+tb.w
        ·rw[if_pos q3]at h;simp at h
        ·rw[if_neg q3]
         obtain⟨t1,t2⟩:=S6 q;obtain⟨t3,t4⟩:=S6 q2;have:=ka t1 t2;have:=kb t3 t4;simp only[XN];omega
       ·rw[if_pos q2]at h;exact absurd h q2
      ·rw[if_pos q]at h;exact absurd h q
     rw[if_neg o11]at h h1 h2 ⊢;by_cases q:(WC a.free b.free ta tb).1=0
     ·rw[if_neg asW]at h1 h2 ⊢
      obtain⟨s1,s2,s3,s4⟩:=bW q;by_cases o19:19≤e.op∧e.op≤24
      ·rw[if_pos o19]at h1;cases h1
      ·rw[if_neg o19]
       show 1≤(WC a.free b.free ta tb).2∧(WC a.free b.free ta tb).2≤128
       rcases s4 with⟨f1,f2⟩|⟨f1,f2⟩
       ·rw[f2];exact kb s2 (by cases hb:tb.fr with|false=>rfl|true=>exact absurd ⟨f1,hb⟩ s3)
       ·rw[f2];exact ka s1 f1
     ·rw[if_pos q]at h;exact absurd h q
    ·rw[if_pos (by simpa using r1)]at h;exact absurd h r1
  ·rw[if_pos (by simpa using r0)]at h;exact absurd h r0) e
abbrev YJ(e:Int):Ending:=.panicked [{ v:=.iface 33 (.int .i64 e),recovered:=false }]
abbrev Yr(P:Program)(w:World)(f:FuncId)(args:Array Value)(E:Ending):Prop:=∀y,Calls P f args (plus w y) fun e w'=>e=E∧∃x,w'=plus (plus w y) x
theorem Yr.up{P:Program}{w:World}{f:FuncId}{args:Array Value}{E:Ending}(h:Yr P w f args E)(z:ZH):Yr P (plus w z) f args E:=fun y=>by
 rw[ZD];exact h _
theorem Xf{P:Program}{V W:World}{z:ZH}{f:FuncId}{args:Array Value}{E:Ending}(hz:W=plus V z)(h:Yr P V f args E):∀y,Calls P f args (plus W y) fun e w'=>e=E∧∃x,w'=plus W x:=fun y=>by
 subst hz;exact ((h.up z) y).mono fun e w' ⟨he,x,hx⟩=>⟨he,_,hx.trans (ZD _ _ _)⟩
theorem xy(b e w):Yr Zx w 102 #[.bool b,.int .i64 e] (if b=true then .returned (.tuple #[]) else YJ e):=by
 intro y0;obtain⟨V,hV⟩:=ZB (plus w y0);rw[hV];clear hV;cases b with
 | true =>
  rw[if_pos rfl];go_enter func102,ntmps102;go_wp2;go_end0;exact⟨rfl,_,(Yk _).symm⟩
 | false =>
  rw[if_neg asE];go_enter func102,ntmps102;go_wp2;exact⟨rfl,rfl,_,(Yk _).symm⟩
theorem Vq(w e):Yr Zx w 102 #[.bool true,.int .i64 e] (.returned (.tuple #[])):=xy true e w
theorem UD(w e):Yr Zx w 102 #[.bool false,.int .i64 e] (YJ e):=xy false e w
theorem Mk(t:Ty)(w):Yr Zx w 49 #[t.v] (if Yz t=0 then .returned (.int .i64 t.w) else YJ (Yz t)):=by
 intro y0;obtain⟨V,hV⟩:=ZB (plus w y0);rw[hV];clear hV;obtain⟨tw,tt,tf⟩:=t;simp only[Ty.v];cases tt with
 | true =>
  rw[show Yz ⟨tw,true,tf⟩=9 from rfl,if_neg asE];go_enter func49,ntmps49;go_wp2_with fail;obtain⟨W,yy,hW,⟨z,hz⟩,ca⟩:=YO V _ 75;rw[hW];refine (UD W 9 yy).mono ?_;rintro r w' ⟨rfl,x,rfl⟩;go_wp2;exact⟨rfl,rfl,by rw[ZD,ZD];exact⟨_,rfl⟩⟩
 | false =>
  cases tf with
  | true =>
   rw[show Yz ⟨tw,false,true⟩=10 from rfl,if_neg asE];go_enter func49,ntmps49;go_wp2_with fail;obtain⟨W,yy,hW,⟨z,hz⟩,ca⟩:=YO V _ 75;rw[hW];have c2:=ca 2 _ rfl;have ZN:=Zf hz;refine (Vq W 9 yy).mono ?_;rintro r w' ⟨rfl,x,rfl⟩;clear hW hz ca;rw[ZD];go_wp2_with fail;refine (UD W 10 _).mono ?_;rintro r w' ⟨rfl,x,rfl⟩;go_wp2;exact⟨rfl,rfl,asU⟩
  | false =>
   rw[show Yz ⟨tw,false,false⟩=0 from rfl,if_pos rfl];go_enter func49,ntmps49;go_wp2_with fail;obtain⟨W,yy,hW,⟨z,hz⟩,ca⟩:=YO V _ 75;rw[hW];have c0:=ca 0 _ rfl;have c2:=ca 2 _ rfl;have ZN:=Zf hz;refine (Vq W 9 yy).mono ?_;rintro r w' ⟨rfl,x,rfl⟩;clear hW hz ca;rw[ZD];go_wp2_with fail;refine (Vq W 10 _).mono ?_;rintro r w' ⟨rfl,x,rfl⟩;rw[ZD];go_wp2;go_ret;exact⟨rfl,asO⟩
theorem JI(W:World)(o:Obj):∃z,W.alloc o=plus W z:=Yy ((Zb _ W).alloc (Zt _) o)
theorem OS(k w):Kp Zx w 48 #[.int .i64 k] (XN k).v:=by
 intro y0;obtain⟨V,hV⟩:=ZB (plus w y0);rw[hV];clear hV;go_enter func48,ntmps48;go_wp2;have g0:(V.alloc (.cells #[.int .i64 k,.bool false,.bool false] 75)).cell? ⟨V.heap.size,0,none⟩=some (.int .i64 k):=YI V _ _ _ 0 rfl;have g1:(V.alloc (.cells #[.int .i64 k,.bool false,.bool false] 75)).cell? ⟨V.heap.size,1,none⟩=some (.bool false):=YI V _ _ _ 1 rfl;have g2:(V.alloc (.cells #[.int .i64 k,.bool false,.bool false] 75)).cell? ⟨V.heap.size,2,none⟩=some (.bool false):=YI V _ _ _ 2 rfl;exact bodyPost_ret (v:=(XN k).v) (by simp[Ty.v,XN,results,Tryz.results48,go_sem,g0,g1,g2]) rfl ⟨rfl,JI _ _⟩
theorem xz(w):Kp Zx w 127 #[] (Ty.v ⟨0,true,false⟩):=by
 intro y0;obtain⟨V,hV⟩:=ZB (plus w y0);rw[hV];clear hV;go_enter func127,ntmps127;go_wp2;have g0:(V.alloc (.cells #[.int .i64 0,.bool true,.bool false] 75)).cell? ⟨V.heap.size,0,none⟩=some (.int .i64 0):=YI V _ _ _ 0 rfl;have g1:(V.alloc (.cells #[.int .i64 0,.bool true,.bool false] 75)).cell? ⟨V.heap.size,1,none⟩=some (.bool true):=YI V _ _ _ 1 rfl;have g2:(V.alloc (.cells #[.int .i64 0,.bool true,.bool false] 75)).cell? ⟨V.heap.size,2,none⟩=some (.bool false):=YI V _ _ _ 2 rfl;exact bodyPost_ret (v:=Ty.v ⟨0,true,false⟩) (by simp[Ty.v,results,Tryz.results127,go_sem,g0,g1,g2]) rfl ⟨rfl,JI _ _⟩
end Go.Proofs.YtknmeggfokpbjaaGreat

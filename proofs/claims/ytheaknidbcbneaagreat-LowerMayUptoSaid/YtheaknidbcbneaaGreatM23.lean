/-
  WHAT IS PROVED HERE: a part of the proof (made narrower and merged by program; the parts: Va Vk Vl).
-/
import Derived.Laws.Rows
import Derived.Test.YtheaknidbcbneaaGreatM19
import Derived.Test.YtheaknidbcbneaaGreatM22
set_option maxRecDepth 100000
set_option maxHeartbeats 8000000
set_option linter.all false
namespace Go.Proofs.YtheaknidbcbneaaGreat
open Go.RowKit Go.Proofs.Tryz
open Below renaming refl→Zc
open Bool renaming and_eq_true→Zd
open Lib renaming hid→Zg
open List renaming mem_cons_self→Zk,mem_of_getElem?→Zl
open Nat renaming le_refl→Zp
open Go.Proofs.Tryz renaming prog→Zr
open Go.RowKit
structure Ty where
 w:Int
 tr:Bool
 fr:Bool
def Ty.cells(t:Ty):List Value:=[.int .i64 t.w,.bool t.tr,.bool t.fr]
def Ty.v(t:Ty):Value:=.agg #[.int .i64 t.w,.bool t.tr,.bool t.fr]
def YV:Ty:=⟨0,false,false⟩
def YQ(w:Int):Ty:=⟨w,false,false⟩
def Z7(t:Ty):Int:=if t.tr then 9 else if t.fr then 10 else 0
def Vu(l:List Fd)(i:Int):Int:=match l[i.toNat]? with|some y=>y.w|none=>0
def UG(p:Pr)(h f:Int):Int:=match p.headers.l[h.toNat]? with|some x=>Vu x.fields.l f|none=>0
def U3(p:Pr)(a f:Int):Int:=match p.actions.l[a.toNat]? with|some x=>Vu x.params.l f|none=>0
def Wf(p:Pr)(act:Int)(op w:Int)(hd nm:ByteArray):Int × Ty :=
 if op=1 then (0,⟨w,false,w==0⟩)
 else if op=2 then (if Wr p (XN p.headers.l hd) nm=-1 then (7,YV) else (0,YQ (UG p (XN p.headers.l hd) (Wr p (XN p.headers.l hd) nm))))
 else if op=3 then (if X1 p.metas.l nm=-1 then (7,YV) else (0,YQ (Vu p.metas.l (X1 p.metas.l nm))))
 else if op=4 then (if WQ p act nm=-1 then (7,YV) else (0,YQ (U3 p act (WQ p act nm))))
 else if op=6 then (if XN p.headers.l hd=-1 then (7,YV) else (0,⟨0,true,false⟩))
 else (0,YQ 9)
def VU(n:Nat)(k:Int):Bool:=decide (n % 2 ^ hw k=n)
mutual
/-- The number at the end of signs. -/
def Ex.free:Ex→Nat
 | .mk op lit _ _ _ _ _ _ l=>if op=1 then lit.n else Ex.frees l
def Ex.frees:List Ex→Nat
 | []=>0
 | x :: _=>x.free
end
theorem Ex.free_eq(e:Ex):e.free=if e.op=1 then e.lit.n else Ex.frees e.args:=by cases e;rw[Ex.free];rfl
mutual
/-- Is it signs ahead of a number? -/
def Ex.chain:Ex→Bool
 | .mk op _ _ _ _ _ _ _ l=>op==1||Ex.chains l
def Ex.chains:List Ex→Bool
 | []=>false
 | x :: _=>x.chain
end
theorem Ex.chain_eq(e:Ex):e.chain=(e.op==1||Ex.chains e.args):=by cases e;rw[Ex.chain];rfl
def Wv(op hi lo:Int)(t:Ty):Int × Ty :=
 if op=9 then (if t.tr then (0,t) else (9,YV))
 else if op=10 then (if Z7 t≠0 then (Z7 t,YV) else if t.w≤hi then (5,YV) else (0,YQ (hi-lo+1)))
 else if t.tr then (9,YV) else (0,t)
def Xv(n m:Nat)(s t:Ty):Int × Int :=
 if s.tr||t.tr then (9,0)
 else if s.fr&&t.fr then (10,0)
 else if s.fr then (if VU n t.w then (0,t.w) else (5,0))
 else if t.fr then (if VU m s.w then (0,s.w) else (5,0))
 else if s.w=t.w then (0,s.w) else (10,0)
def Ua(op:Int)(n m:Nat)(s t:Ty):Int × Ty :=
 if op=25∨op=26 then (if s.tr&&t.tr then (0,s) else (9,YV))
 else if op=11 then (if Z7 s≠0 then (Z7 s,YV) else if Z7 t≠0 then (Z7 t,YV) else if 128<s.w+t.w then (5,YV) else (0,YQ (s.w+t.w)))
 else if (Xv n m s t).1≠0 then ((Xv n m s t).1,YV)
 else if 19≤op∧op≤24 then (0,⟨0,true,false⟩) else (0,YQ (Xv n m s t).2)
def Uw(p:Pr)(act:Int)(op w:Int)(hd nm:ByteArray)(hi lo:Int):List ((Int × Ty) × Nat)→Int × Ty
 | []=>Wf p act op w hd nm
 | (r,n) :: l =>
  if r.1≠0 then (r.1,YV)
  else if op=14∨op=15 then (if Z7 r.2≠0 then (Z7 r.2,YV) else (0,r.2))
  else match l with
   | []=>Wv op hi lo r.2
   | (s,m) :: _=>if s.1≠0 then (s.1,YV) else Ua op n m r.2 s.2
mutual
def Ex.ty(p:Pr)(act:Int):Ex→Int × Ty
 | .mk op lit hd nm hi lo _ _ l=>Uw p act op lit.w hd nm hi lo (Ex.tys p act l)
def Ex.tys(p:Pr)(act:Int):List Ex→List ((Int × Ty) × Nat)
 | []=>[]
 | x :: l=>(x.ty p act,x.free) :: Ex.tys p act l
end
theorem Ex.tys_map(p:Pr)(act:Int):∀l:List Ex,Ex.tys p act l=l.map fun x=>(x.ty p act,x.free)
 | []=>by rw[Ex.tys];rfl
 | x :: l=>by rw[Ex.tys,Ex.tys_map p act l];rfl
theorem Ex.ty_eq(p:Pr)(act:Int)(e:Ex):e.ty p act=Uw p act e.op e.lit.w e.head e.name e.hi e.lo (e.args.map fun x=>(x.ty p act,x.free)):=by
 cases e;rw[Ex.ty,Ex.tys_map];rfl
theorem Uh{t:Ty}(h:Z7 t=0):t.tr=false∧t.fr=false:=by
 obtain⟨w,tr,fr⟩:=t;unfold Z7 at h;cases tr <;> cases fr <;> simp at h ⊢
theorem Ex.ty_fine(p:Pr)(act:Int):∀e:Ex,(e.ty p act).1=0→¬((e.ty p act).2.tr=true∧(e.ty p act).2.fr=true)∧((e.ty p act).2.fr=true→e.chain=true):=fun e=>Ex.ind (Q:=fun e=>(e.ty p act).1=0→¬((e.ty p act).2.tr=true∧(e.ty p act).2.fr=true)∧((e.ty p act).2.fr=true→e.chain=true)) (fun e ih h=>by
 rw[Ex.ty_eq]at h ⊢;rw[Ex.chain_eq];cases hl:e.args with
 | nil =>
  rw[hl]at h;simp only[List.map_nil,Uw]at h ⊢;unfold Wf at h ⊢;by_cases o1:e.op=1
  ·rw[if_pos o1];simp[o1]
  rw[if_neg o1]at h ⊢;by_cases o2:e.op=2
  ·rw[if_pos o2]at h ⊢
   split at h
   ·simp at h
   ·next q=>rw[if_neg q];simp[YQ]
  rw[if_neg o2]at h ⊢;by_cases o3:e.op=3
  ·rw[if_pos o3]at h ⊢
   split at h
   ·simp at h
   ·next q=>rw[if_neg q];simp[YQ]
  rw[if_neg o3]at h ⊢;by_cases o4:e.op=4
  ·rw[if_pos o4]at h ⊢
   split at h
   ·simp at h
   ·next q=>rw[if_neg q];simp[YQ]
  rw[if_neg o4]at h ⊢;by_cases o6:e.op=6
  ·rw[if_pos o6]at h ⊢
   split at h
   ·simp at h
   ·next q=>rw[if_neg q];simp
  rw[if_neg o6];simp[YQ]
 | cons a l =>
  have ha:=ih a (by rw[hl];exact Zk ..);rw[hl]at h;simp only[List.map_cons,Uw,Ex.chains]at h ⊢;obtain⟨⟨ra,ta⟩,hra⟩:∃r,a.ty p act=r:=⟨_,rfl⟩;rw[hra]at h ha ⊢;simp only at h ha ⊢;by_cases r0:ra=0
  ·subst r0
   simp only[ne_eq,not_true_eq_false,if_false]at h ⊢;obtain⟨i1,i2⟩:=ha rfl;by_cases os:e.op=14∨e.op=15
   ·rw[if_pos os]at h ⊢
    by_cases q:Z7 ta=0
    ·obtain⟨t1,t2⟩:=Uh q
     rw[if_neg (by simpa using q)];simp[t1,t2]
    ·rw[if_pos q]at h;exact absurd h q
   rw[if_neg os]at h ⊢;cases l with
   | nil =>
    simp only[List.map_nil]at h ⊢;unfold Wv at h ⊢;by_cases o9:e.op=9
    ·rw[if_pos o9]at h ⊢
     by_cases q:ta.tr=true
     ·rw[if_pos q];exact⟨i1,fun f=>absurd ⟨q,f⟩ i1⟩
     ·rw[if_neg q]at h;simp at h
    rw[if_neg o9]at h ⊢;by_cases o10:e.op=10
    ·rw[if_pos o10]at h ⊢
     by_cases q:Z7 ta=0
     ·rw[if_neg (by simpa using q)]at h ⊢
      by_cases q2:ta.w≤e.hi
      ·rw[if_pos q2]at h;simp at h
      ·rw[if_neg q2];simp[YQ]
     ·rw[if_pos q]at h;exact absurd h q
    rw[if_neg o10]at h ⊢;by_cases q:ta.tr=true
    ·rw[if_pos q]at h;simp at h
    ·rw[if_neg q]
     exact⟨i1,fun f=>by rw[i2 f,Bool.or_true]⟩
   | cons b l =>
    simp only[List.map_cons]at h ⊢;have hb:=ih b (by rw[hl];exact List.mem_cons_of_mem _ (Zk ..));obtain⟨⟨rb,tb⟩,hrb⟩:∃r,b.ty p act=r:=⟨_,rfl⟩;rw[hrb]at h hb ⊢;simp only at h hb ⊢;by_cases r1:rb=0
    ·subst r1
     simp only[not_true_eq_false,if_false]at h ⊢;unfold Ua at h ⊢;by_cases o25:e.op=25∨e.op=26
     ·rw[if_pos o25]at h ⊢
      by_cases q:(ta.tr&&tb.tr)=true
      ·rw[if_pos q]
       have q1:ta.tr=true:=by simp at q;exact q.1
       exact⟨i1,fun f=>absurd ⟨q1,f⟩ i1⟩
      ·rw[if_neg q]at h;simp at h
     rw[if_neg o25]at h ⊢;by_cases o11:e.op=11
     ·rw[if_pos o11]at h ⊢
      by_cases q:Z7 ta=0
      ·rw[if_neg (by simpa using q)]at h ⊢
       by_cases q2:Z7 tb=0
       ·rw[if_neg (by simpa using q2)]at h ⊢
        by_cases q3:128<ta.w+tb.w
        ·rw[if_pos q3]at h;simp at h
        ·rw[if_neg q3];simp[YQ]
       ·rw[if_pos q2]at h;exact absurd h q2
      ·rw[if_pos q]at h;exact absurd h q
     rw[if_neg o11]at h ⊢;by_cases q:(Xv a.free b.free ta tb).1=0
     ·rw[if_neg (by simpa using q)]
      split <;> simp[YQ]
     ·rw[if_pos q]at h;exact absurd h q
    ·rw[if_pos (by simpa using r1)]at h;exact absurd h r1
  ·rw[if_pos (by simpa using r0)]at h;exact absurd h r0) e
structure ST (p:Pr):Prop where
 hd:∀x∈p.headers.l,∀y∈x.fields.l,1≤y.w∧y.w≤128
 mt:∀y∈p.metas.l,1≤y.w∧y.w≤128
 ac:∀x∈p.actions.l,∀y∈x.params.l,1≤y.w∧y.w≤128
theorem Pb{α:Type}{lo hi:Int}{f:α→Bool}{l:List α}(h:VB lo hi f l=true):∀x∈l,f x=true:=by
 unfold VB at h;simp only[Zd,decide_eq_true_eq,List.all_eq_true]at h;exact h.2
theorem La{α:Type}(q:α→Bool)(l:List α)(h:Y1 q l 0≠-1):∃(i:Nat) (x:α),Y1 q l 0=(i:Int)∧l[i]?=some x∧q x=true:=by
 have go:∀(l:List α) (k:Nat),Y1 q l k≠-1→∃(i:Nat) (x:α),Y1 q l k=((k+i:Nat):Int)∧l[i]?=some x∧q x=true:=by
  intro l;induction l with
  | nil=>intro k h;exact absurd rfl h
  | cons x l ih =>
   intro k h;rw[Y1]at h ⊢;by_cases e:q x=true
   ·rw[if_pos e];exact⟨0,x,rfl,rfl,e⟩
   ·rw[if_neg e]at h ⊢
    obtain⟨i,y,h1,h2,h3⟩:=ih (k+1) h;exact⟨i+1,y,by rw[h1];omega,by simpa using h2,h3⟩
 obtain⟨i,x,h1,h2,h3⟩:=go l 0 h;exact⟨i,x,by rw[h1];omega,h2,h3⟩
theorem S4{l:List Fd}{s:ByteArray}(h:X1 l s≠-1):∃(i:Nat) (y:Fd),X1 l s=(i:Int)∧l[i]?=some y:=by
 obtain⟨i,y,h1,h2,-⟩:=La _ l h;exact⟨i,y,h1,h2⟩
theorem Pi{p:Pr}{h:Int}{s:ByteArray}(hn:Wr p h s≠-1):∃(k:Nat) (x:Hr) (i:Nat) (y:Fd),h=(k:Int)∧p.headers.l[k]?=some x∧Wr p h s=(i:Int)∧x.fields.l[i]?=some y:=by
 unfold Wr at hn ⊢;split at hn
 ·exact absurd rfl hn
 ·next q =>
  rw[if_neg q];cases hx:p.headers.l[h.toNat]? with
  | none=>rw[hx]at hn;exact absurd rfl hn
  | some x =>
   rw[hx]at hn;obtain⟨i,y,h1,h2⟩:=S4 hn;exact⟨h.toNat,x,i,y,by omega,hx,h1,h2⟩
theorem Od{p:Pr}{h:Int}{s:ByteArray}(hn:WQ p h s≠-1):∃(k:Nat) (x:Ac) (i:Nat) (y:Fd),h=(k:Int)∧p.actions.l[k]?=some x∧WQ p h s=(i:Int)∧x.params.l[i]?=some y:=by
 unfold WQ at hn ⊢;split at hn
 ·exact absurd rfl hn
 ·next q =>
  rw[if_neg q];cases hx:p.actions.l[h.toNat]? with
  | none=>rw[hx]at hn;exact absurd rfl hn
  | some x =>
   rw[hx]at hn;obtain⟨i,y,h1,h2⟩:=S4 hn;exact⟨h.toNat,x,i,y,by omega,hx,h1,h2⟩
theorem TW{l:List Fd}{i:Nat}{y:Fd}(h:l[i]?=some y):Vu l (i:Int)=y.w:=by
 unfold Vu;rw[Int.toNat_natCast,h]
theorem GY{n m:Nat}{s t:Ty}(h:(Xv n m s t).1=0):s.tr=false∧t.tr=false∧¬(s.fr=true∧t.fr=true)∧((s.fr=true∧(Xv n m s t).2=t.w)∨(s.fr=false∧(Xv n m s t).2=s.w)):=by
 unfold Xv at h ⊢;by_cases q1:(s.tr||t.tr)=true
 ·rw[if_pos q1]at h;simp at h
 rw[if_neg q1]at h ⊢;have q1:s.tr=false∧t.tr=false:=by simpa using q1
 by_cases q2:(s.fr&&t.fr)=true
 ·rw[if_pos q2]at h;simp at h
 rw[if_neg q2]at h ⊢;have q2:¬(s.fr=true∧t.fr=true):=by simpa using q2
 refine⟨q1.1,q1.2,q2,?_⟩;by_cases q3:s.fr=true
 ·rw[if_pos q3]at h ⊢
  by_cases q4:VU n t.w=true
  ·rw[if_pos q4];exact .inl ⟨q3,rfl⟩
  ·rw[if_neg q4]at h;simp at h
 rw[if_neg q3]at h ⊢;have q3:s.fr=false:=by simpa using q3
 by_cases q5:t.fr=true
 ·rw[if_pos q5]at h ⊢
  by_cases q4:VU m s.w=true
  ·rw[if_pos q4];exact .inr ⟨q3,rfl⟩
  ·rw[if_neg q4]at h;simp at h
 rw[if_neg q5]at h ⊢;by_cases q6:s.w=t.w
 ·rw[if_pos q6];exact .inr ⟨q3,rfl⟩
 ·rw[if_neg q6]at h;simp at h
theorem Ex.ty_wide(p:Pr)(hW:ST p)(act:Int):∀(e:Ex) (n:Nat),e.may n=true→(e.ty p act).1=0→(e.ty p act).2.tr=false→(e.ty p act).2.fr=false→1≤(e.ty p act).2.w∧(e.ty p act).2.w≤128:=fun e=>Ex.ind (Q:=fun e=>∀n:Nat,e.may n=true→(e.ty p act).1=0→(e.ty p act).2.tr=false→(e.ty p act).2.fr=false→1≤(e.ty p act).2.w∧(e.ty p act).2.w≤128) (fun e ih n hm h h1 h2=>by
 cases n with
 | zero=>simp[Ex.may]at hm
 | succ n =>
 rw[Ex.may]at hm;simp only[Zd]at hm;obtain⟨-,hf,hk⟩:=hm;have UI:=Pb hk;unfold Ex.fits at hf;simp only[Zd]at hf;obtain⟨VM,-,-,WZ,-⟩:=hf;rw[Ex.ty_eq]at h h1 h2 ⊢;cases hl:e.args with
 | nil =>
  rw[hl]at h h1 h2;simp only[List.map_nil,Uw]at h h1 h2 ⊢;unfold Wf at h h1 h2 ⊢;by_cases o1:e.op=1
  ·rw[if_pos o1]at h2 ⊢
   simp only at h2 ⊢;unfold SG UV at VM;rw[o1]at VM;simp only[beq_self_eq_true,if_true]at VM;unfold Re Nq at VM;rw[h2]at VM;simp only[Bool.false_or,Zd,decide_eq_true_eq]at VM;exact VM.1
  rw[if_neg o1]at h h1 h2 ⊢;by_cases o2:e.op=2
  ·rw[if_pos o2]at h h1 h2 ⊢
   by_cases q:Wr p (XN p.headers.l e.head) e.name=-1
   ·rw[if_pos q]at h;simp at h
   ·rw[if_neg q]
    obtain⟨k,x,i,y,g1,g2,g3,g4⟩:=Pi q;rw[g3,g1];show 1≤UG p (k:Int) (i:Int)∧UG p (k:Int) (i:Int)≤128
    unfold UG;rw[Int.toNat_natCast,g2];show 1≤Vu x.fields.l (i:Int)∧Vu x.fields.l (i:Int)≤128
    rw[TW g4];exact hW.hd x (Zl g2) y (Zl g4)
  rw[if_neg o2]at h h1 h2 ⊢;by_cases o3:e.op=3
  ·rw[if_pos o3]at h h1 h2 ⊢
   by_cases q:X1 p.metas.l e.name=-1
   ·rw[if_pos q]at h;simp at h
   ·rw[if_neg q]
    obtain⟨i,y,g3,g4⟩:=S4 q;rw[g3];show 1≤Vu p.metas.l (i:Int)∧Vu p.metas.l (i:Int)≤128
    rw[TW g4];exact hW.mt y (Zl g4)
  rw[if_neg o3]at h h1 h2 ⊢;by_cases o4:e.op=4
  ·rw[if_pos o4]at h h1 h2 ⊢
   by_cases q:WQ p act e.name=-1
   ·rw[if_pos q]at h;simp at h
   ·rw[if_neg q]
    obtain⟨k,x,i,y,g1,g2,g3,g4⟩:=Od q;rw[g3,g1];show 1≤U3 p (k:Int) (i:Int)∧U3 p (k:Int) (i:Int)≤128
    unfold U3;rw[Int.toNat_natCast,g2];show 1≤Vu x.params.l (i:Int)∧Vu x.params.l (i:Int)≤128
    rw[TW g4];exact hW.ac x (Zl g2) y (Zl g4)
  rw[if_neg o4]at h h1 h2 ⊢;by_cases o6:e.op=6
  ·rw[if_pos o6]at h h1 h2
   by_cases q:XN p.headers.l e.head=-1
   ·rw[if_pos q]at h;simp at h
   ·rw[if_neg q]at h1;simp at h1
  rw[if_neg o6];simp[YQ]
 | cons a l =>
  have ka:=ih a (by rw[hl];exact Zk ..) n (UI a (by rw[hl];exact Zk ..));have fa:=Ex.ty_fine p act a;rw[hl]at h h1 h2;simp only[List.map_cons,Uw]at h h1 h2 ⊢;obtain⟨⟨ra,ta⟩,hra⟩:∃r,a.ty p act=r:=⟨_,rfl⟩;rw[hra]at h h1 h2 ka fa ⊢;simp only at h h1 h2 ka fa ⊢;by_cases r0:ra=0
  ·subst r0
   have ka:=ka rfl;simp only[ne_eq,not_true_eq_false,if_false]at h h1 h2 ⊢;by_cases os:e.op=14∨e.op=15
   ·rw[if_pos os]at h h1 h2 ⊢
    by_cases q:Z7 ta=0
    ·obtain⟨t1,t2⟩:=Uh q
     rw[if_neg (by simpa using q)];exact ka t1 t2
    ·rw[if_pos q]at h;exact absurd h q
   rw[if_neg os]at h h1 h2 ⊢;cases l with
   | nil =>
    simp only[List.map_nil]at h h1 h2 ⊢;unfold Wv at h h1 h2 ⊢;by_cases o9:e.op=9
    ·rw[if_pos o9]at h h1
     by_cases q:ta.tr=true
     ·rw[if_pos q]at h1;rw[q]at h1;cases h1
     ·rw[if_neg q]at h;simp at h
    rw[if_neg o9]at h h1 h2 ⊢;by_cases o10:e.op=10
    ·rw[if_pos o10]at h h1 h2 ⊢
     by_cases q:Z7 ta=0
     ·rw[if_neg (by simpa using q)]at h h1 h2 ⊢
      by_cases q2:ta.w≤e.hi
      ·rw[if_pos q2]at h;simp at h
      ·rw[if_neg q2]
       unfold TU Uf at WZ;rw[o10]at WZ;simp only[beq_self_eq_true,if_true,Zd,decide_eq_true_eq]at WZ;simp only[YQ];omega
     ·rw[if_pos q]at h;exact absurd h q
    rw[if_neg o10]at h h1 h2 ⊢;by_cases q:ta.tr=true
    ·rw[if_pos q]at h;simp at h
    ·rw[if_neg q]at h1 h2 ⊢
     exact ka h1 h2
   | cons b l =>
    simp only[List.map_cons]at h h1 h2 ⊢;have kb:=ih b (by rw[hl];exact List.mem_cons_of_mem _ (Zk ..)) n (UI b (by rw[hl];exact List.mem_cons_of_mem _ (Zk ..)));obtain⟨⟨rb,tb⟩,hrb⟩:∃r,b.ty p act=r:=⟨_,rfl⟩;rw[hrb]at h h1 h2 kb ⊢;simp only at h h1 h2 kb ⊢;by_cases r1:rb=0
    ·subst r1
     have kb:=kb rfl;simp only[not_true_eq_false,if_false]at h h1 h2 ⊢;unfold Ua at h h1 h2 ⊢;by_cases o25:e.op=25∨e.op=26
     ·rw[if_pos o25]at h h1 h2
      by_cases q:(ta.tr&&tb.tr)=true
      ·rw[if_pos q]at h1
       have q1:ta.tr=true:=by simp at q;exact q.1
       rw[q1]at h1;cases h1
      ·rw[if_neg q]at h;simp at h
     rw[if_neg o25]at h h1 h2 ⊢;by_cases o11:e.op=11
     ·rw[if_pos o11]at h h1 h2 ⊢
      by_cases q:Z7 ta=0
      ·rw[if_neg (by simpa using q)]at h h1 h2 ⊢
       by_cases q2:Z7 tb=0
       ·rw[if_neg (by simpa using q2)]at h h1 h2 ⊢
        by_cases q3:128<ta.w+tb.w
        ·rw[if_pos q3]at h;simp at h
        ·rw[if_neg q3]
         obtain⟨t1,t2⟩:=Uh q;obtain⟨t3,t4⟩:=Uh q2;have:=ka t1 t2;have:=kb t3 t4;simp only[YQ];omega
       ·rw[if_pos q2]at h;exact absurd h q2
      ·rw[if_pos q]at h;exact absurd h q
     rw[if_neg o11]at h h1 h2 ⊢;by_cases q:(Xv a.free b.free ta tb).1=0
     ·rw[if_neg (by simpa using q)]at h1 h2 ⊢
      obtain⟨s1,s2,s3,s4⟩:=GY q;by_cases o19:19≤e.op∧e.op≤24
      ·rw[if_pos o19]at h1;cases h1
      ·rw[if_neg o19]
       show 1≤(Xv a.free b.free ta tb).2∧(Xv a.free b.free ta tb).2≤128
       rcases s4 with⟨f1,f2⟩|⟨f1,f2⟩
       ·rw[f2];exact kb s2 (by cases hb:tb.fr with|false=>rfl|true=>exact absurd ⟨f1,hb⟩ s3)
       ·rw[f2];exact ka s1 f1
     ·rw[if_pos q]at h;exact absurd h q
    ·rw[if_pos (by simpa using r1)]at h;exact absurd h r1
  ·rw[if_pos (by simpa using r0)]at h;exact absurd h r0) e
abbrev Yl(e:Int):Ending:=.panicked [{ v:=.iface 66 (.int .i64 e),recovered:=false }]
abbrev Ye(P:Program)(w:World)(f:FuncId)(args:Array Value)(E:Ending):Prop:=∀y,Calls P f args (plus w y) fun e w'=>e=E∧∃x,w'=plus (plus w y) x
theorem Ye.up{P:Program}{w:World}{f:FuncId}{args:Array Value}{E:Ending}(h:Ye P w f args E)(z:ZA):Ye P (plus w z) f args E:=fun y=>by
 rw[Zx];exact h _
theorem Yn{P:Program}{V W:World}{z:ZA}{f:FuncId}{args:Array Value}{E:Ending}(hz:W=plus V z)(h:Ye P V f args E):∀y,Calls P f args (plus W y) fun e w'=>e=E∧∃x,w'=plus W x:=fun y=>by
 subst hz;exact ((h.up z) y).mono fun e w' ⟨he,x,hx⟩=>⟨he,_,hx.trans (Zx _ _ _)⟩
theorem O6(b e w):Ye Zr w 136 #[.bool b,.int .i64 e] (if b=true then .returned (.tuple #[]) else Yl e):=by
 intro y0;obtain⟨V,hV⟩:=Zv (plus w y0);rw[hV];clear hV;cases b with
 | true =>
  rw[if_pos rfl];go_enter func136,ntmps136;go_wp2;go_end0;exact⟨rfl,_,(ZK _).symm⟩
 | false =>
  rw[if_neg (by decide)];go_enter func136,ntmps136;go_wp2;exact⟨rfl,rfl,_,(ZK _).symm⟩
theorem XE(w e):Ye Zr w 136 #[.bool true,.int .i64 e] (.returned (.tuple #[])):=O6 true e w
theorem W6(w e):Ye Zr w 136 #[.bool false,.int .i64 e] (Yl e):=O6 false e w
theorem Rq(t:Ty)(w):Ye Zr w 110 #[t.v] (if Z7 t=0 then .returned (.int .i64 t.w) else Yl (Z7 t)):=by
 intro y0;obtain⟨V,hV⟩:=Zv (plus w y0);rw[hV];clear hV;obtain⟨tw,tt,tf⟩:=t;simp only[Ty.v];cases tt with
 | true =>
  rw[show Z7 ⟨tw,true,tf⟩=9 from rfl,if_neg (by decide)];go_enter func110,ntmps110;go_wp2_with fail;obtain⟨W,yy,hW,⟨z,hz⟩,ca⟩:=Ya V _ 101;rw[hW];refine (W6 W 9 yy).mono ?_;rintro r w' ⟨rfl,x,rfl⟩;go_wp2;exact⟨rfl,rfl,by rw[Zx,Zx];exact⟨_,rfl⟩⟩
 | false =>
  cases tf with
  | true =>
   rw[show Z7 ⟨tw,false,true⟩=10 from rfl,if_neg (by decide)];go_enter func110,ntmps110;go_wp2_with fail;obtain⟨W,yy,hW,⟨z,hz⟩,ca⟩:=Ya V _ 101;rw[hW];have c2:=ca 2 _ rfl;have Zw:=Zg hz;refine (XE W 9 yy).mono ?_;rintro r w' ⟨rfl,x,rfl⟩;clear hW hz ca;rw[Zx];go_wp2_with fail;refine (W6 W 10 _).mono ?_;rintro r w' ⟨rfl,x,rfl⟩;go_wp2;exact⟨rfl,rfl,by rw[Zw.out,Zx,Zx];exact⟨_,rfl⟩⟩
  | false =>
   rw[show Z7 ⟨tw,false,false⟩=0 from rfl,if_pos rfl];go_enter func110,ntmps110;go_wp2_with fail;obtain⟨W,yy,hW,⟨z,hz⟩,ca⟩:=Ya V _ 101;rw[hW];have c0:=ca 0 _ rfl;have c2:=ca 2 _ rfl;have Zw:=Zg hz;refine (XE W 9 yy).mono ?_;rintro r w' ⟨rfl,x,rfl⟩;clear hW hz ca;rw[Zx];go_wp2_with fail;refine (XE W 10 _).mono ?_;rintro r w' ⟨rfl,x,rfl⟩;rw[Zx];go_wp2;go_ret;exact⟨rfl,by rw[Zw.out,Zx];exact⟨_,rfl⟩⟩
theorem P7(W:World)(o:Obj):∃z,W.alloc o=plus W z:=ZS ((Zc _ W).alloc (Zp _) o)
theorem Uv(k w):Kp Zr w 109 #[.int .i64 k] (YQ k).v:=by
 intro y0;obtain⟨V,hV⟩:=Zv (plus w y0);rw[hV];clear hV;go_enter func109,ntmps109;go_wp2;have g0:(V.alloc (.cells #[.int .i64 k,.bool false,.bool false] 101)).cell? ⟨V.heap.size,0,none⟩=some (.int .i64 k):=Z4 V _ _ _ 0 rfl;have g1:(V.alloc (.cells #[.int .i64 k,.bool false,.bool false] 101)).cell? ⟨V.heap.size,1,none⟩=some (.bool false):=Z4 V _ _ _ 1 rfl;have g2:(V.alloc (.cells #[.int .i64 k,.bool false,.bool false] 101)).cell? ⟨V.heap.size,2,none⟩=some (.bool false):=Z4 V _ _ _ 2 rfl;exact bodyPost_ret (v:=(YQ k).v) (by simp[Ty.v,YQ,results,Tryz.results109,go_sem,g0,g1,g2]) rfl ⟨rfl,P7 _ _⟩
theorem O7(w):Kp Zr w 140 #[] (Ty.v ⟨0,true,false⟩):=by
 intro y0;obtain⟨V,hV⟩:=Zv (plus w y0);rw[hV];clear hV;go_enter func140,ntmps140;go_wp2;have g0:(V.alloc (.cells #[.int .i64 0,.bool true,.bool false] 101)).cell? ⟨V.heap.size,0,none⟩=some (.int .i64 0):=Z4 V _ _ _ 0 rfl;have g1:(V.alloc (.cells #[.int .i64 0,.bool true,.bool false] 101)).cell? ⟨V.heap.size,1,none⟩=some (.bool true):=Z4 V _ _ _ 1 rfl;have g2:(V.alloc (.cells #[.int .i64 0,.bool true,.bool false] 101)).cell? ⟨V.heap.size,2,none⟩=some (.bool false):=Z4 V _ _ _ 2 rfl;exact bodyPost_ret (v:=Ty.v ⟨0,true,false⟩) (by simp[Ty.v,results,Tryz.results140,go_sem,g0,g1,g2]) rfl ⟨rfl,P7 _ _⟩
mutual
/-- The literal at the end of signs. -/
def Ex.endL:Ex→Lt
 | .mk op lit _ _ _ _ _ _ l=>if op=1 then lit else Ex.endLs lit l
def Ex.endLs(d:Lt):List Ex→Lt
 | []=>d
 | x :: _=>x.endL
end
theorem Ex.endL_eq(e:Ex):e.endL=if e.op=1 then e.lit else Ex.endLs e.lit e.args:=by cases e;rw[Ex.endL];rfl
mutual
/-- How many signs. -/
def Ex.signs:Ex→Nat
 | .mk op _ _ _ _ _ _ _ l=>if op=1 then 0 else Ex.signss l
def Ex.signss:List Ex→Nat
 | []=>0
 | x :: _=>1+x.signs
end
theorem Ex.signs_eq(e:Ex):e.signs=if e.op=1 then 0 else Ex.signss e.args:=by cases e;rw[Ex.signs];rfl
def TV(w:World):Nat→Addr→Nat
 | 0,_=>0
 | k+1,a=>match w.cell? a,w.cell? (a.add 8) with
  | some (.int _ op),some (.slice (some q) _ _)=>if op=1 then 0 else 1+TV w k q
  | _,_=>0
theorem MX:∀(x:Ex) (w:World) (k:Nat) (a:Addr),x.In w→ZG w a x.cells→x.wt≤k→x.chain=true→TV w k a=x.signs:=fun x=>Ex.ind (Q:=fun x=>∀(w:World) (k:Nat) (a:Addr),x.In w→ZG w a x.cells→x.wt≤k→x.chain=true→TV w k a=x.signs) (fun e ih w k a ZQ hc hk hch=>by
 cases k with
 | zero=>have:=e.wt_pos;omega
 | succ k =>
  have h0:=hc.c0 _ rfl;have h8:w.cell? (a.add 8)=some (.slice e.p e.args.length e.cap):=hc 8 _ rfl;rw[Ex.signs_eq];unfold TV;rw[h0,h8];rw[Ex.chain_eq]at hch;by_cases o:e.op=1
  ·rw[if_pos o]
   cases e.p with
   | none=>rfl
   | some q=>simp[o]
  ·rw[if_neg o]
   have hch2:Ex.chains e.args=true:=by simpa [o]using hch
   cases hl:e.args with
   | nil=>rw[hl]at hch2;cases hch2
   | cons x l =>
    rw[hl]at hch2;have hx:e.args[0]?=some x:=by rw[hl];rfl
    have X4:x∈e.args:=by rw[hl];exact Zk ..
    obtain⟨_,_,_,_,_,_,_,_,_,Z1,Wl⟩:=ZQ;obtain⟨q,hq,hcx⟩:=Z1 0 x hx;rw[hq];have hwt:=Ex.wt_eq e;have WM:=We Ex.wt e.args x X4;have:=ih x X4 w k q (Wl x X4) (by rw[Nat.zero_mul]at hcx;exact hcx) (by omega) hch2;simp only[o,if_false];rw[this];rfl) x
theorem Ex.free_end:∀e:Ex,e.chain=true→e.free=e.endL.n:=fun e=>Ex.ind (Q:=fun e=>e.chain=true→e.free=e.endL.n) (fun e ih h=>by
 rw[Ex.free_eq,Ex.endL_eq];rw[Ex.chain_eq]at h;by_cases o:e.op=1
 ·rw[if_pos o,if_pos o]
 ·rw[if_neg o,if_neg o]
  have h2:Ex.chains e.args=true:=by simpa [o]using h
  cases hl:e.args with
  | nil=>rw[hl]at h2;cases h2
  | cons x l =>
   rw[hl]at h2;exact ih x (by rw[hl];exact Zk ..) h2) e
theorem Ex.end_ok:∀e:Ex,∀w,e.In w→e.endL.Ok:=fun e=>Ex.ind (Q:=fun e=>∀w,e.In w→e.endL.Ok) (fun e ih w h=>by
 rw[Ex.endL_eq];obtain⟨_,_,VM,_,_,_,_,_,_,_,Wl⟩:=h;by_cases o:e.op=1
 ·rw[if_pos o];exact VM
 ·rw[if_neg o]
  cases hl:e.args with
  | nil=>exact VM
  | cons x l=>exact ih x (by rw[hl];exact Zk ..) w (Wl x (by rw[hl];exact Zk ..))) e
theorem VW{X:World}{b:Nat}{cs:Array Value}{t:TypeId}(h:X.heap[b]?=some (.cells cs t (0,0)))(i:Nat)(u:Value)(cs':Array Value)(e:cs.setIfInBounds i u=cs'):(X.setCell ⟨b,i,none⟩ u).heap[b]?=some (.cells cs' t (0,0)):=by
 rw[heap_setCell_same X b i cs t u h,e]
theorem It{W:World}{b:Nat}{t:TypeId}(c0 c1 c2 c3 c4 c5 c6 c7 c8 v0 v1 v2 v3 v4 v5 v6 v7 v8:Value)(h:W.heap[b]?=some (.cells #[c0,c1,c2,c3,c4,c5,c6,c7,c8] t (0,0))) :
  (((((((((W.setCell ⟨b,0,none⟩ v0).setCell ⟨b,1,none⟩ v1).setCell ⟨b,2,none⟩ v2).setCell ⟨b,3,none⟩ v3).setCell ⟨b,4,none⟩ v4).setCell ⟨b,5,none⟩ v5).setCell ⟨b,6,none⟩ v6).setCell ⟨b,7,none⟩ v7).setCell ⟨b,8,none⟩ v8).heap[b]?=some (.cells #[v0,v1,v2,v3,v4,v5,v6,v7,v8] t (0,0)):=by
 have h1:=VW h 0 v0 #[v0,c1,c2,c3,c4,c5,c6,c7,c8] rfl;have h2:=VW h1 1 v1 #[v0,v1,c2,c3,c4,c5,c6,c7,c8] rfl;have h3:=VW h2 2 v2 #[v0,v1,v2,c3,c4,c5,c6,c7,c8] rfl;have h4:=VW h3 3 v3 #[v0,v1,v2,v3,c4,c5,c6,c7,c8] rfl;have h5:=VW h4 4 v4 #[v0,v1,v2,v3,v4,c5,c6,c7,c8] rfl;have h6:=VW h5 5 v5 #[v0,v1,v2,v3,v4,v5,c6,c7,c8] rfl;have h7:=VW h6 6 v6 #[v0,v1,v2,v3,v4,v5,v6,c7,c8] rfl;have h8:=VW h7 7 v7 #[v0,v1,v2,v3,v4,v5,v6,v7,c8] rfl;have h9:=VW h8 8 v8 #[v0,v1,v2,v3,v4,v5,v6,v7,v8] rfl;exact h9
theorem Ir(W:World)(b:Nat)(v0 v1 v2 v3 v4 v5 v6 v7 v8:Value)(k:Nat)(hk:k≠b):(((((((((W.setCell ⟨b,0,none⟩ v0).setCell ⟨b,1,none⟩ v1).setCell ⟨b,2,none⟩ v2).setCell ⟨b,3,none⟩ v3).setCell ⟨b,4,none⟩ v4).setCell ⟨b,5,none⟩ v5).setCell ⟨b,6,none⟩ v6).setCell ⟨b,7,none⟩ v7).setCell ⟨b,8,none⟩ v8).heap[k]?=W.heap[k]?:=by
 rw[Below.heap_setCell _ _ _ _ hk,Below.heap_setCell _ _ _ _ hk,Below.heap_setCell _ _ _ _ hk,Below.heap_setCell _ _ _ _ hk,Below.heap_setCell _ _ _ _ hk,Below.heap_setCell _ _ _ _ hk,Below.heap_setCell _ _ _ _ hk,Below.heap_setCell _ _ _ _ hk,Below.heap_setCell _ _ _ _ hk]
theorem Iq{V W:World}{B b:Nat}(v0 v1 v2 v3 v4 v5 v6 v7 v8:Value)(hB:Below B V W)(hb:B≤b):Below B V (((((((((W.setCell ⟨b,0,none⟩ v0).setCell ⟨b,1,none⟩ v1).setCell ⟨b,2,none⟩ v2).setCell ⟨b,3,none⟩ v3).setCell ⟨b,4,none⟩ v4).setCell ⟨b,5,none⟩ v5).setCell ⟨b,6,none⟩ v6).setCell ⟨b,7,none⟩ v7).setCell ⟨b,8,none⟩ v8):=(Below.setCell (Below.setCell (Below.setCell (Below.setCell (Below.setCell (Below.setCell (Below.setCell (Below.setCell (Below.setCell hB (show B≤b from hb) v0) (show B≤b from hb) v1) (show B≤b from hb) v2) (show B≤b from hb) v3) (show B≤b from hb) v4) (show B≤b from hb) v5) (show B≤b from hb) v6) (show B≤b from hb) v7) (show B≤b from hb) v8)
theorem Iu(W:World)(b:Nat)(v0 v1 v2 v3 v4 v5 v6 v7 v8:Value):(((((((((W.setCell ⟨b,0,none⟩ v0).setCell ⟨b,1,none⟩ v1).setCell ⟨b,2,none⟩ v2).setCell ⟨b,3,none⟩ v3).setCell ⟨b,4,none⟩ v4).setCell ⟨b,5,none⟩ v5).setCell ⟨b,6,none⟩ v6).setCell ⟨b,7,none⟩ v7).setCell ⟨b,8,none⟩ v8).heap.size=W.heap.size:=by
 simp only[World.size_setCell]
structure TF (V:World) (b:Nat) (W:World) (x:Ex):Prop where
 below:Below b V W
 size:b+2≤W.heap.size
 box:W.heap[b]?=some (.cells x.cells.toArray 65 (0,0))
 res:W.heap[b+1]?=some (.cells #[.int .u64 0,.int .u64 0] 60 (0,0))
theorem Vj{W:World}{b:Nat}{cs:Array Value}{t:TypeId}{fr:Nat × Nat}(h:W.heap[b]?=some (.cells cs t fr))(j:Nat)(u:Value)(hj:cs[j]?=some u):W.cell? ⟨b,j,none⟩=some u:=by simp[World.cell?,h,hj]
theorem TF.at{V:World}{b:Nat}{W:World}{x:Ex}(h:TF V b W x):ZG W ⟨b,0,none⟩ x.cells:=fun j v hj=>by
 rw[Addr.add_lit,Nat.zero_add];exact Vj h.box j v (by simpa using hj)
theorem Ld(V:World)(e:Ex)(cs:Array Value)(h1:cs.toList=e.cells):∃W,(V.alloc (.cells cs 65)).alloc (.cells #[.int .u64 0,.int .u64 0] 60)=W∧TF V V.heap.size W e:=by
 have s1:(V.alloc (.cells cs 65)).heap.size=V.heap.size+1:=by simp
 refine⟨_,rfl,((Zc _ V).alloc (Zp _) _).alloc (by omega) _,by simp,?_,?_⟩
 ·rw[Below.heap_alloc _ _ _ (by omega),←h1]
  exact heap_alloc_new V _
 ·rw[←s1];exact heap_alloc_new _ _
theorem Pm{V:World}{b N:Nat}{W:World}{x:Ex}(hb:V.heap.size=b)(h:TF V b W x)(ZQ:x.In V)(hw:x.wt≤N)(hc:x.chain=true):TV W N ⟨b,0,none⟩=x.signs:=by
 subst hb;obtain⟨z,hz⟩:=ZS h.below;exact MX x W N _ (by rw[hz];exact ZQ.plus z) h.at hw hc
def SJ(t:Lt):Value:=.agg #[.int .u64 t.h,.int .u64 t.l]
theorem Fg(e:Ex)(w:World)(ZQ:e.In w)(hch:e.chain=true):Kp Zr w 165 #[e.val] (SJ e.endL):=by
 intro y0;have ZQ:=ZQ.plus y0;obtain⟨V,hV⟩:=Zv (plus w y0);rw[hV]at ZQ ⊢;clear hV;obtain⟨b,hb⟩:=Zv V.heap.size;obtain⟨N,hN⟩:=Zv e.wt;obtain⟨L,hL⟩:=Zv e.endL;rw[hL];have h0:Hid (e.In V∧e.chain=true∧e.endL=L∧e.wt≤N):=Zg ⟨ZQ,hch,hL,by omega⟩;have YI:=Zg hb;clear ZQ hch hL hN hb;obtain⟨op,⟨lw,lh,ll⟩,hd,nm,eh,el,ep,ec,eargs⟩:=e;show Calls Zr 165 #[.agg #[.int .u8 op,.int .i64 lw,.int .u64 lh,.int .u64 ll,.string hd,.string nm,.int .i64 eh,.int .i64 el,.slice ep eargs.length ec]] V _
 go_enter func165,ntmps165;go_wp2_with fail;obtain⟨W,hW,hI⟩:=Ld V (.mk op ⟨lw,lh,ll⟩ hd nm eh el ep ec eargs) #[.int .u8 op,.int .i64 lw,.int .u64 lh,.int .u64 ll,.string hd,.string nm,.int .i64 eh,.int .i64 el,.slice ep eargs.length ec] rfl;rw[hW];rw[YI.out]at hI ⊢;have hI':=Zg hI;clear hW hI;go_loopw [3] (fun _ wr=>∃x:Ex,Hid (x.In V∧x.chain=true∧x.endL=L∧x.wt≤N)∧Hid (TF V b wr x)) (fun _ wr=>TV wr N ⟨b,0,none⟩)
 case atStart=>exact⟨_,h0,hI'⟩
 case round =>
  clear h0 hI';obtain⟨x,hx,hF⟩:=hrel;have VH:=hF.out.at;obtain⟨z,hz⟩:=ZS (YI.out.symm▸hF.out.below);have hfar:=Zg (Pm YI.out hF.out hx.out.1 hx.out.2.2.2 hx.out.2.1);have hsg:=Ex.signs_eq x;have Vp:=Ex.endL_eq x;have hce:=Ex.chain_eq x;rw[hx.out.2.1]at hce;rw[hx.out.2.2.1]at Vp;obtain⟨_,_,_,_,_,_,_,_,_,Z1,Wl⟩:=hx.out.1;have hwt:=Ex.wt_eq x;have hxw:=hx.out.2.2.2;have d0:=VH.c0 _ rfl;have d1:wr.cell? ⟨b,1,none⟩=some (.int .i64 x.lit.w):=Vj hF.out.box 1 _ rfl;have d2:wr.cell? ⟨b,2,none⟩=some (.int .u64 x.lit.h):=Vj hF.out.box 2 _ rfl;have d3:wr.cell? ⟨b,3,none⟩=some (.int .u64 x.lit.l):=Vj hF.out.box 3 _ rfl;have d4:wr.cell? ⟨b,4,none⟩=some (.string x.head):=Vj hF.out.box 4 _ rfl;have d5:wr.cell? ⟨b,5,none⟩=some (.string x.name):=Vj hF.out.box 5 _ rfl;have d6:wr.cell? ⟨b,6,none⟩=some (.int .i64 x.hi):=Vj hF.out.box 6 _ rfl;have d7:wr.cell? ⟨b,7,none⟩=some (.int .i64 x.lo):=Vj hF.out.box 7 _ rfl;have d8:wr.cell? ⟨b,8,none⟩=some (.slice x.p x.args.length x.cap):=Vj hF.out.box 8 _ rfl;by_cases o:x.op=1
  ·have e0:=Vj hF.out.res 0 _ rfl
   have e1:=Vj hF.out.res 1 _ rfl;have ff:=fun j=>frozen_of_row wr (b+1) j _ _ hF.out.res;rw[if_pos o]at Vp;have o2:(x.op==1)=true:=by simpa using o
   have hel':=Zg Vp;clear hsg hce Vp Z1 Wl hwt hxw VH hz;rw[o]at d0;go_wp2;have r1:=VW hF.out.res 0 (.int .u64 x.lit.h) #[.int .u64 x.lit.h,.int .u64 0] rfl;have r2:=VW r1 1 (.int .u64 x.lit.l) #[.int .u64 x.lit.h,.int .u64 x.lit.l] rfl;have g0:=Vj r2 0 (.int .u64 x.lit.h) rfl;have g1:=Vj r2 1 (.int .u64 x.lit.l) rfl;have T1:Below b V ((wr.setCell ⟨b+1,0,none⟩ (.int .u64 x.lit.h)).setCell ⟨b+1,1,none⟩ (.int .u64 x.lit.l)):=(Below.setCell (hF.out.below.setCell (show b≤b+1 by omega) _) (show b≤b+1 by omega) _);clear r1 r2;generalize (wr.setCell ⟨b+1,0,none⟩ (.int .u64 x.lit.h)).setCell ⟨b+1,1,none⟩ (.int .u64 x.lit.l)=X at g0 g1 T1 ⊢;refine bodyPost_ret (v:=SJ x.lit) (by simp[SJ,results,Tryz.results165,go_sem,g0,g1]) rfl ⟨by rw[hel'.out],ZS (YI.out.symm▸T1)⟩
  ·have o2:(x.op==1)=false:=by simpa using o
   have o3:(x.op !=1)=true:=by simpa using o
   rw[if_neg o]at hsg Vp;rw[o2,Bool.false_or]at hce;cases hl:x.args with
   | nil=>rw[hl]at hce;cases hce
   | cons y ys =>
    have hy0:x.args[0]?=some y:=by rw[hl];rfl
    have hym:y∈x.args:=by rw[hl];exact Zk ..
    obtain⟨q,hq,WF⟩:=Z1 0 y hy0;have hyin:=Wl y hym;have WM:=We Ex.wt x.args y hym;rw[Nat.zero_mul]at WF;replace WF:ZG V q y.cells:=WF;have hcw:=Xn hz WF;have YA:x.args.length=ys.length+1:=by rw[hl];rfl
    rw[hl]at hsg Vp hce;replace hsg:x.signs=1+y.signs:=hsg;replace Vp:L=y.endL:=Vp;replace hce:true=y.chain:=hce;have hy:Hid (y.In V∧y.chain=true∧y.endL=L∧y.wt≤N):=Zg ⟨hyin,hce.symm,Vp.symm,by omega⟩;have f0:wr.cell? q=some (.int .u8 y.op):=hcw.c0 _ rfl;have f1:=hcw.cs 0 _ rfl;have f2:=hcw.cs 1 _ rfl;have f3:=hcw.cs 2 _ rfl;have f4:=hcw.cs 3 _ rfl;have f5:=hcw.cs 4 _ rfl;have f6:=hcw.cs 5 _ rfl;have f7:=hcw.cs 6 _ rfl;have f8:=hcw.cs 7 _ rfl;have ff:=fun j=>frozen_of_row wr b j _ _ hF.out.box;have hsg':=Zg hsg;have hnext:TF V b (((((((((wr.setCell ⟨b,0,none⟩ (.int .u8 y.op)).setCell ⟨b,1,none⟩ (.int .i64 y.lit.w)).setCell ⟨b,2,none⟩ (.int .u64 y.lit.h)).setCell ⟨b,3,none⟩ (.int .u64 y.lit.l)).setCell ⟨b,4,none⟩ (.string y.head)).setCell ⟨b,5,none⟩ (.string y.name)).setCell ⟨b,6,none⟩ (.int .i64 y.hi)).setCell ⟨b,7,none⟩ (.int .i64 y.lo)).setCell ⟨b,8,none⟩ (.slice y.p y.args.length y.cap)) y:=⟨Iq _ _ _ _ _ _ _ _ _ hF.out.below (Zp b),by rw[Iu];exact hF.out.size,It _ _ _ _ _ _ _ _ _ _ _ _ _ _ _ _ _ _ hF.out.box,by rw[Ir _ _ _ _ _ _ _ _ _ _ _ _ (by omega)];exact hF.out.res⟩;have hnext':=Zg hnext;rw[hq,YA]at d8;have hl1:(0:Int)<((ys.length+1:Nat):Int):=by omega
    obtain⟨M,hM⟩:=Zv (ys.length+1);rw[hM]at d8 hl1;have XB:0<M:=by omega
    clear hsg hce Vp Z1 Wl hwt hxw VH hz hl hy0 hym WF hcw YA WM hyin hnext hM hq hx;go_wp2;refine⟨⟨y,hy,hnext'⟩,?_⟩;rw[hfar.out,hsg'.out,Pm YI.out hnext'.out hy.out.1 hy.out.2.2.2 hy.out.2.1];omega
end Go.Proofs.YtheaknidbcbneaaGreat

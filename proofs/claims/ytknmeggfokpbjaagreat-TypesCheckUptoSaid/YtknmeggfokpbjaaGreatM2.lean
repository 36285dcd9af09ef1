/-
  WHAT IS PROVED HERE: a part of the proof (made narrower and merged by program; the parts: SA).
-/
import Derived.Test.YtknmeggfokpbjaaGreatRows
import Derived.Deep.Slices
import Derived.Deep.Fields
import Derived.ChangeSame
import Derived.WalkKit
import Derived.Lib.Hide
import Derived.WalkSpells
import Derived.WalkLawsBesides
import Derived.Test.YtknmeggfokpbjaaGreatM1
set_option maxRecDepth 100000
set_option maxHeartbeats 8000000
set_option linter.all false
namespace Go.Proofs.YtknmeggfokpbjaaGreat
open Z
open Go.RowKit Go.Proofs.Tryz
open Ending renaming returned→Zd
open Lib renaming hid→Zf
open List renaming getElem?_eq_some_iff→Zi,length_cons→Zk,map_cons→Zm,mem_of_getElem?→Zo
open Nat renaming le_refl→Zt,zero_le→Zw
open Go.Proofs.Tryz renaming prog→Zx
open Value renaming bool→Zy,int→Zz
open Go.ChangeShapes Go.WideShapes Go.RowKit Go.Deep
def Yg(w:World)(a:Addr)(cs:List Value):Prop:=∀j v,cs[j]?=some v→w.cell? (a.add j)=some v
def Xa{α:Type}(w:World)(C:Nat)(cells:α→List Value)(p:Option Addr)(l:List α):Prop :=
 ∀i x,l[i]?=some x→∃a,p=some a∧Yg w (a.add (i*C)) (cells x)
theorem KA{w:World}{a:Addr}{v:Value}(h:w.cell? a=some v):a.block<w.heap.size:=by
 by_cases hb:a.block<w.heap.size
 ·exact hb
 ·unfold World.cell? at h
  rw[Array.getElem?_eq_none asB]at h;cases h
theorem ZS{w:World}{a:Addr}{v:Value}(h:w.cell? a=some v)(x:ZH):(plus w x).cell? a=some v :=
 ((Xl w x).cell (p:=a) (KA h)).trans h
theorem Yg.plus{w:World}{a:Addr}{cs:List Value}(h:Yg w a cs)(x:ZH):Yg (plus w x) a cs:=fun j v hj=>ZS (h j v hj) x
theorem Xa.plus{α:Type}{w:World}{C:Nat}{cells:α→List Value}{p:Option Addr}{l:List α}(h:Xa w C cells p l)(x:ZH):Xa (plus w x) C cells p l:=fun i y hi=>by
 obtain⟨a,ha,hc⟩:=h i y hi;exact⟨a,ha,hc.plus x⟩
theorem Cy{H:Type}{α β:Type}(size:α→Nat)(f:β→DataW H):∀(l:List α) (ys:List β),l.length=ys.length→(∀(i:Nat) (x:α) (y:β),l[i]?=some x→ys[i]?=some y→size x≤Rows.uptoBulk (f y))→(l.map size).sum≤Rows.uptoBulkAll (ys.map f)
 | [],[],_,_=>by simp[Rows.uptoBulkAll]
 | [],_ :: _,h,_=>by simp at h
 | _ :: _,[],h,_=>by simp at h
 | x :: l,y :: ys,h,hs=>by
  have h0:=hs 0 x y rfl rfl;have h1:=Cy size f l ys asN fun i x' y' e e'=>hs (i+1) x' y' ate (by simpa using e');simp only[Zm,List.sum_cons,Rows.uptoBulkAll];omega
section
variable {H:Type} {enc:TypeId × Value→H} {P:Program} {w:World} {base:Nat} {spare:Nat→Bool} {YE:Bool}
def Tq(enc:TypeId × Value→H)(P:Program)(w:World)(base:Nat)(spare:Nat→Bool)(YE:Bool)(fuel:Nat)(t:TypeId){α:Type}(cells:α→List Value)(In:α→Prop)(size:α→Nat):Prop :=
 ∀cs x,DataW.trod enc P w base spare YE fuel t cs=some x→∃e:α,cs=cells e∧In e∧size e≤Rows.uptoBulk x.1
theorem yr{t e:TypeId}{C fuel:Nat}{α:Type}{cells:α→List Value}{In:α→Prop}{size:α→Nat}{cs:List Value}{x:DataW H × List MemPlace}(ht:P.underlying t=some (.slice e))(hC:P.cellsOf e=C)(ho:∀n,n<fuel→Tq enc P w base spare YE n e cells In size)(h:DataW.trod enc P w base spare YE fuel t cs=some x) :
  ∃(p:Option Addr) (cap:Nat) (l:List α),cs=[.slice p l.length cap]∧l.length≤cap∧cap≤maxLen∧Xa w C cells p l∧(∀y∈l,In y)∧(l.map size).sum+1≤Rows.uptoBulk x.1:=by
 subst hC;rcases DataW.trod_slice ht h with⟨rfl,rfl⟩|⟨a,len,cap,elems,rest,n,rfl,rfl,rfl,hb,hl,hm,XQ,SC,_,_⟩
 ·exact⟨none,0,[],rfl,Zt _,Zw _,fun i x hi=>by simp at hi,fun y hy=>by simp at hy,by simp[Rows.uptoBulk]⟩
 ·have key:∀i,i<len→∃y:α,∃z,elems[i]?=some z∧Yg w (a.add (i*P.cellsOf e)) (cells y)∧In y∧size y≤Rows.uptoBulk z.1:=by
   intro i hi;have hz:elems[i]?=some (elems[i]'asB):=List.getElem?_eq_getElem asB;have:=SC i hi;rw[hz]at this;obtain⟨cs',h1,h2⟩:=Option.bind_eq_some_iff.1 this;obtain⟨y,hy,ZF,hs⟩:=ho n (Nat.lt_succ_self n) cs' _ h2;obtain⟨_,XF,V9⟩:=World.cells?_some h1;refine⟨y,_,hz,fun j v hj=>?_,ZF,hs⟩;rw[←hy]at hj;have hjl:j<cs'.length:=(Zi.1 hj).1;rw[V9 j asB,hj]
  clear SC h ho;have:∃l:List α,l.length=len∧∀i y,l[i]?=some y→∃z,elems[i]?=some z∧Yg w (a.add (i*P.cellsOf e)) (cells y)∧In y∧size y≤Rows.uptoBulk z.1:=by
   by_cases h0:len=0
   ·exact⟨[],by simp[h0],fun i y hi=>by simp at hi⟩
   ·obtain⟨y0,_⟩:=key 0 asB
    haveI:Inhabited α:=⟨y0⟩;obtain⟨f,hf⟩:=choose_lt key;refine⟨(List.range len).map f,asD,fun i y hi=>?_⟩;simp only[List.getElem?_map]at hi;by_cases hil:i<len
    ·rw[List.getElem?_range hil]at hi
     simp only[Option.map_some,Option.some.injEq]at hi;subst hi;exact hf i hil
    ·rw[List.getElem?_eq_none (by simpa using hil)]at hi
     simp at hi
  obtain⟨l,hll,Yt⟩:=this;refine⟨some a,cap,l,by rw[hll],asB,hm,fun i y hi=>?_,fun y hy=>?_,?_⟩
  ·obtain⟨z,_,h2,_⟩:=Yt i y hi
   exact⟨a,rfl,h2⟩
  ·obtain⟨i,hi⟩:=List.mem_iff_getElem?.1 hy
   obtain⟨z,_,_,h3,_⟩:=Yt i y hi;exact h3
  ·have:=Cy (H:=H) size (fun z:DataW H × List MemPlace=>z.1) l elems asB fun i y z hy hz=>by
    obtain⟨z',e1,_,_,h4⟩:=Yt i y hy;rw[hz]at e1;obtain rfl:=Option.some.inj e1;exact h4
   show (l.map size).sum+1≤Rows.uptoBulkAll (elems.map (·.1))+Rows.uptoBulkAll (rest.map (·.1))+1
   omega
end
structure Lt where
 w:Int
 h:Int
 l:Int
def Lt.cells(t:Lt):List Value:=[.int .i64 t.w,.int .u64 t.h,.int .u64 t.l]
structure Lt.Ok (t:Lt):Prop where
 w:(Lit.int .i64 t.w).wf=true
 h:(Lit.int .u64 t.h).wf=true
 l:(Lit.int .u64 t.l).wf=true
inductive Ex where
 | mk (op:Int) (lit:Lt) (head name:ByteArray) (hi lo:Int) (p:Option Addr) (cap:Nat) (args:List Ex)
def Ex.op:Ex→Int|.mk op _ _ _ _ _ _ _ _=>op
def Ex.lit:Ex→Lt|.mk _ t _ _ _ _ _ _ _=>t
def Ex.head:Ex→ByteArray|.mk _ _ s _ _ _ _ _ _=>s
def Ex.name:Ex→ByteArray|.mk _ _ _ s _ _ _ _ _=>s
def Ex.hi:Ex→Int|.mk _ _ _ _ h _ _ _ _=>h
def Ex.lo:Ex→Int|.mk _ _ _ _ _ l _ _ _=>l
def Ex.p:Ex→Option Addr|.mk _ _ _ _ _ _ p _ _=>p
def Ex.cap:Ex→Nat|.mk _ _ _ _ _ _ _ c _=>c
def Ex.args:Ex→List Ex|.mk _ _ _ _ _ _ _ _ l=>l
def Ex.cells(e:Ex):List Value:=[.int .u8 e.op,.int .i64 e.lit.w,.int .u64 e.lit.h,.int .u64 e.lit.l,.string e.head,.string e.name,.int .i64 e.hi,.int .i64 e.lo,.slice e.p e.args.length e.cap]
def Ex.val(e:Ex):Value:=.agg e.cells.toArray
theorem Ex.ind{Q:Ex→Prop}(h:∀e:Ex,(∀x∈e.args,Q x)→Q e):∀e,Q e:=fun e =>
 Ex.rec (motive_1:=Q) (motive_2:=fun l=>∀x∈l,Q x) (fun _ _ _ _ _ _ _ _ _ ih=>h _ ih) (fun x hx=>by simp at hx) (fun _ _ h1 h2 x hx=>by
  rcases List.mem_cons.1 hx with rfl|hx
  ·exact h1
  ·exact h2 x hx) e
mutual
/-- How many nodes and bytes it has. -/
def Ex.wt:Ex→Nat
 | .mk _ _ hd nm _ _ _ _ args=>1+hd.size+nm.size+Ex.wts args
def Ex.wts:List Ex→Nat
 | []=>0
 | e :: l=>e.wt+Ex.wts l
end
theorem Ex.wts_sum:∀l:List Ex,Ex.wts l=(l.map Ex.wt).sum
 | []=>by simp[Ex.wts]
 | e :: l=>by simp[Ex.wts,Ex.wts_sum l]
theorem Ex.wt_eq(e:Ex):e.wt=1+e.head.size+e.name.size+(e.args.map Ex.wt).sum:=by
 cases e;simp[Ex.wt,Ex.wts_sum,Ex.head,Ex.name,Ex.args]
inductive Ex.In (w:World):Ex→Prop where
 | mk (e:Ex) (op:(Lit.int .u8 e.op).wf=true) (lit:e.lit.Ok) (hi:(Lit.int .i64 e.hi).wf=true) (lo:(Lit.int .i64 e.lo).wf=true) (hd:e.head.size≤maxLen) (nm:e.name.size≤maxLen)
   (len:e.args.length≤e.cap) (cap:e.cap≤maxLen) (row:Xa w 9 Ex.cells e.p e.args) (kids:∀x∈e.args,Ex.In w x):Ex.In w e
theorem Ex.In.plus{w:World}(x:ZH):∀{e:Ex},e.In w→e.In (plus w x):=fun {e} h=>by
 induction h with
 | mk e op lit hi lo hd nm len cap row _ ih=>exact .mk e op lit hi lo hd nm len cap (row.plus x) ih
section
variable {H:Type} {enc:TypeId × Value→H} {w:World} {base:Nat} {spare:Nat→Bool} {YE:Bool}
theorem cI:Zx.cellsOf 3=1:=asC
theorem KF:Zx.cellsOf 5=1:=asC
theorem CL:Zx.cellsOf 38=1:=asC
theorem cS:Zx.cellsOf 9=1:=asC
theorem CH:Zx.cellsOf 40=2:=asC
theorem MX:Zx.cellsOf 42=3:=asC
theorem MW:Zx.cellsOf 45=9:=asC
theorem CD:Zx.cellsOf 43=1:=asC
theorem f9{fuel:Nat}{cs:List Value}{x:DataW H × List MemPlace}(h:DataW.trod enc Zx w base spare YE fuel 40 cs=some x) :
  ∃a b:Int,cs=[.int .u64 a,.int .u64 b]∧(Lit.int .u64 a).wf=true∧(Lit.int .u64 b).wf=true:=by
 obtain⟨xs,n,rfl,rfl,XF,hxl,hf⟩:=DataW.trod_struct (P:=Zx) Tryz.underlying40 h;have W6:cs.length=2:=XF.trans CH;clear XF h;match cs,W6 with
 | [c0,c1],_ =>
  match xs,hxl with
  | [x0,x1],_ =>
   have h0:DataW.trod enc Zx w base spare YE n 38 [c0]=some x0:=by simpa [CL]using hf 0 _ rfl
   have h1:DataW.trod enc Zx w base spare YE n 38 [c1]=some x1:=by simpa [CL]using hf 1 _ rfl
   obtain⟨a,e0,_,w0⟩:=DataW.trod_int Tryz.underlying38 h0;obtain⟨b,e1,_,w1⟩:=DataW.trod_int Tryz.underlying38 h1;obtain rfl:=List.head_eq_of_cons_eq e0;obtain rfl:=List.head_eq_of_cons_eq e1;exact⟨a,b,rfl,w0,w1⟩
theorem JH{fuel:Nat}:Tq enc Zx w base spare YE fuel 42 Lt.cells Lt.Ok (fun _=>1):=by
 intro cs x h;obtain⟨xs,n,rfl,rfl,XF,hxl,hf⟩:=DataW.trod_struct (P:=Zx) Tryz.underlying42 h;have W6:cs.length=3:=XF.trans MX;clear XF h;match cs,W6 with
 | [c0,c1,c2],_ =>
  match xs,hxl with
  | [x0,x1],_ =>
   have h0:DataW.trod enc Zx w base spare YE n 3 [c0]=some x0:=by simpa [cI]using hf 0 _ rfl
   have h1:DataW.trod enc Zx w base spare YE n 40 [c1,c2]=some x1:=by simpa [CH]using hf 1 _ rfl
   obtain⟨a,e0,_,w0⟩:=DataW.trod_int Tryz.underlying3 h0;obtain⟨b,c,e1,w1,w2⟩:=f9 h1;obtain rfl:=List.head_eq_of_cons_eq e0;simp only[List.cons.injEq,and_true]at e1;obtain⟨rfl,rfl⟩:=e1;exact⟨⟨a,b,c⟩,rfl,⟨w0,w1,w2⟩,by simp[Rows.uptoBulk]⟩
theorem FC:∀(fuel:Nat),Tq enc Zx w base spare YE fuel 45 Ex.cells (Ex.In w) Ex.wt:=by
 intro fuel;induction fuel using Nat.strongRecOn with
 | ind fuel ih =>
 intro cs x h;obtain⟨xs,n,rfl,rfl,XF,hxl,hf⟩:=DataW.trod_struct (P:=Zx) Tryz.underlying45 h;have W6:cs.length=9:=XF.trans MW;clear XF h;match cs,W6 with
 | [c0,c1,c2,c3,c4,c5,c6,c7,c8],_ =>
  match xs,hxl with
  | [x0,x1,x2,x3,x4,x5,x6],_ =>
   have h0:DataW.trod enc Zx w base spare YE n 5 [c0]=some x0:=by simpa [KF]using hf 0 _ rfl
   have h1:DataW.trod enc Zx w base spare YE n 42 [c1,c2,c3]=some x1:=by simpa [MX]using hf 1 _ rfl
   have h2:DataW.trod enc Zx w base spare YE n 9 [c4]=some x2:=atH;have h3:DataW.trod enc Zx w base spare YE n 9 [c5]=some x3:=by simpa [cS]using hf 3 _ rfl
   have h4:DataW.trod enc Zx w base spare YE n 3 [c6]=some x4:=by simpa [cI]using hf 4 _ rfl
   have h5:DataW.trod enc Zx w base spare YE n 3 [c7]=some x5:=by simpa [cI]using hf 5 _ rfl
   have h6:DataW.trod enc Zx w base spare YE n 43 [c8]=some x6:=by simpa [CD]using hf 6 _ rfl
   obtain⟨op,e0,_,w0⟩:=DataW.trod_int Tryz.underlying5 h0;obtain⟨t,e1,w1,_⟩:=JH _ _ h1;obtain⟨hd,e2,q2,w2⟩:=DataW.trod_string Tryz.underlying9 h2;obtain⟨nm,e3,q3,w3⟩:=DataW.trod_string Tryz.underlying9 h3;obtain⟨hi,e4,_,w4⟩:=DataW.trod_int Tryz.underlying3 h4;obtain⟨lo,e5,_,w5⟩:=DataW.trod_int Tryz.underlying3 h5;obtain⟨p,cap,l,e6,hl,hc,hr,ZF,hs⟩:=yr (cells:=Ex.cells) (In:=Ex.In w) (size:=Ex.wt) Tryz.underlying43 MW (fun m hm=>ih m asB) h6;obtain rfl:=List.head_eq_of_cons_eq e0;simp only[Lt.cells,List.cons.injEq,and_true]at e1;obtain⟨rfl,rfl,rfl⟩:=e1;obtain rfl:=List.head_eq_of_cons_eq e2;obtain rfl:=List.head_eq_of_cons_eq e3;obtain rfl:=List.head_eq_of_cons_eq e4;obtain rfl:=List.head_eq_of_cons_eq e5;obtain rfl:=List.head_eq_of_cons_eq e6;refine⟨.mk op t hd nm hi lo p cap l,rfl,.mk _ w0 w1 w4 w5 w2 w3 hl hc hr ZF,?_⟩;rw[Ex.wt_eq];have b2:Rows.uptoBulk x2.1=hd.size+1:=atI;have b3:Rows.uptoBulk x3.1=nm.size+1:=by rw[q3];simp[Rows.uptoBulk]
   simp only[Zm,List.map_nil,Rows.uptoBulk,Rows.uptoBulkAll,b2,b3,Ex.head,Ex.name,Ex.args];omega
end
theorem Wv(n:Int)(h:-9223372036854775808≤n∧n≤9223372036854775807):wrap64 n=n:=by unfold wrap64;omega
theorem Y7(k n:Nat)(h:k<n)(hn:n≤1048576):wrap64 ((k:Int)+1)=((k+1:Nat):Int):=by
 rw[Wv _ asB];simp
theorem Y9(k n:Nat)(h:k<n)(ha:wrap64 ((k:Int)+1)=((k+1:Nat):Int)):n-(intOf (.int .i64 (wrap64 ((k:Int)+1)))).toNat<n-(intOf (.int .i64 (k:Int))).toNat:=by
 rw[ha];simp only[intOf,Int.toNat_natCast];omega
theorem Yg.c0{w:World}{a:Addr}{cs:List Value}(h:Yg w a cs)(v:Value)(hj:cs[0]?=some v):w.cell? a=some v:=h 0 v hj
theorem Yg.cs{w:World}{a:Addr}{cs:List Value}(h:Yg w a cs)(j:Nat)(v:Value)(hj:cs[j+1]?=some v):w.cell? ⟨a.block,a.off+(j+1),none⟩=some v:=h (j+1) v hj
theorem Ej{α:Type}(f:α→Nat)(l:List α)(k:Nat)(x:α)(h:l[k]?=some x):((l.take (k+1)).map f).sum=((l.take k).map f).sum+f x:=by
 rw[List.take_add_one,h];simp
theorem xr{α:Type}(f:α→Nat)(l:List α)(k:Nat):((l.take k).map f).sum≤(l.map f).sum:=by
 have:(l.map f).sum=((l.take k).map f).sum+((l.drop k).map f).sum:=by
  rw[←List.sum_append,←List.map_append,List.take_append_drop]
 omega
theorem XM{α:Type}(f:α→Nat)(hf:∀x,1≤f x):∀l:List α,l.length≤(l.map f).sum
 | []=>by simp
 | x :: l=>by have:=XM f hf l;have:=hf x;simp;omega
theorem Ex.wt_pos(e:Ex):1≤e.wt:=by rw[Ex.wt_eq];omega
theorem YW{α:Type}(f:α→Nat)(l:List α)(x:α)(h:x∈l):f x≤(l.map f).sum:=by
 obtain⟨k,hk⟩:=List.mem_iff_getElem?.1 h;have:=Ej f l k x hk;have:=xr f l (k+1);omega
def YT{α:Type}(f:α→Nat)(m:Nat)(l:List α)(k:Nat):Nat:=m+((l.take k).map f).sum
theorem R5{α:Type}(f:α→Nat)(m:Nat)(l:List α):YT f m l 0=m:=by simp[YT]
theorem R4{α:Type}(f:α→Nat)(m:Nat)(l:List α)(k:Nat)(x:α)(h:l[k]?=some x):YT f m l (k+1)=YT f m l k+f x:=by
 unfold YT;rw[Ej f l k x h];omega
theorem RZ{α:Type}(f:α→Nat)(m:Nat)(l:List α)(k:Nat):YT f m l k≤m+(l.map f).sum:=by
 have:=xr f l k;unfold YT;omega
theorem RY{α:Type}(f:α→Nat)(m:Nat)(l:List α)(k:Nat)(h:l.length=k):YT f m l k=m+(l.map f).sum:=by
 unfold YT;rw[List.take_of_length_le asB]
theorem dP:∀(e:Ex) (w:World),e.In w→e.wt≤1048576→Calls Zx 14 #[e.val] w fun r w'=>r=.returned (.int .i64 (e.wt:Int))∧∃x,w'=plus w x:=by
 intro e;induction e using Ex.ind with
 | _ e ih =>
 intro w ZF hb;obtain⟨op,⟨lw,lh,ll⟩,hd,nm,eh,el,p,cap,args⟩:=e;obtain⟨_,_,_,_,_,h1,h2,h3,h4,Yj,Xj⟩:=ZF;have Wk:=Ex.wt_eq (.mk op ⟨lw,lh,ll⟩ hd nm eh el p cap args);simp only[Ex.args,Ex.head,Ex.name,Ex.p,Ex.cap]at ih h1 h2 h3 h4 Yj Xj Wk;have hR:∃R,Ex.wt (.mk op ⟨lw,lh,ll⟩ hd nm eh el p cap args)=R:=⟨_,rfl⟩;obtain⟨R,hR⟩:=hR;rw[hR]at hb Wk ⊢;clear hR;show Calls Zx 14 #[.agg #[.int .u8 op,.int .i64 lw,.int .u64 lh,.int .u64 ll,.string hd,.string nm,.int .i64 eh,.int .i64 el,.slice p args.length cap]] w _
 have hn:∃n,args.length=n:=⟨_,rfl⟩;obtain⟨n,hn⟩:=hn;rw[hn];have ih':=Zf ih;have Wf:=Zf Yj;have Sf:=Zf Xj;have hwt':=Zf Wk;have Yi:=Zf hb;have ZO:=Zf hn;have hl:n≤1048576:=at9;have Yt:=Zf hl;clear hl ih Yj Xj Wk hb hn h1 h2 h3 h4;go_enter func14,ntmps14;go_wp2;obtain⟨W,hW,hB,hs,ca,fa⟩:=WS w _ 45;rw[←hW];have c8:=ca 8 (some (.slice p n cap)) rfl;obtain⟨z,hz⟩:=Yy hB;have hN:wrap64 (wrap64 (1+(hd.size:Int))+(nm.size:Int))=(YT Ex.wt (1+hd.size+nm.size) args 0:Int):=by
  have a1:=hwt'.out;have a2:=Yi.out;rw[Wv (1+(hd.size:Int)) asB,Wv _ asB,R5];omega
 rw[hN];have ZN:=Zf hz;clear hW ca fa hz hN;go_loopw [3,4] (fun nv iv wr=>∃k:Nat,k≤n∧iv=.int .i64 (k:Int)∧nv=.int .i64 (YT Ex.wt (1+hd.size+nm.size) args k:Int)∧∃y,wr=plus W y) (fun _ iv _=>n-(intOf iv).toNat)
 case atStart=>exact⟨0,Zw _,rfl,rfl,⟨#[],W.drawn⟩,(Yk W).symm⟩
 case round =>
  obtain⟨k,hk,rfl,rfl,y,rfl⟩:=hrel;by_cases ZC:k<n
  ·obtain⟨e,he⟩:=Yq args k asG
   obtain⟨a,rfl,hc⟩:=Wf.out k e he;have ZV:e∈args:=Zo he;have RH:=R4 Ex.wt (1+hd.size+nm.size) args k e he;have Uy:=RZ Ex.wt (1+hd.size+nm.size) args (k+1);have hew:=YW Ex.wt args e ZV;have Xw:=fun y=>ih'.out e ZV (plus W y) (by rw[ZN.out,ZD];exact (Sf.out e ZV).plus _) (by have:=hwt'.out;have:=Yi.out;omega);have TP:=Zf Xw;have Yo:∀y,Yg (plus W y) (a.add (k*9)) e.cells:=fun y=>aua;open Z renaming aei→Gq in exact EQ
  ·obtain rfl:k=n:=by omega
   have hR:(YT Ex.wt (1+hd.size+nm.size) args k:Int)=(R:Int):=by
    have:=hwt'.out;rw[RY Ex.wt _ args k ZO.out];omega
   have ZR:=Zf hR;clear hR;go_wp2;go_ret;exact⟨congrArg (fun z=>Zd (Zz .i64 z)) ZR.out,asO⟩
end Go.Proofs.YtknmeggfokpbjaaGreat
namespace Go.Proofs.YtknmeggfokpbjaaGreat
open Z
open Go.RowKit Go.Proofs.Tryz
open Ending renaming returned→Zd
open Lib renaming hid→Zf
open List renaming getElem?_eq_some_iff→Zi,length_cons→Zk,map_cons→Zm,mem_of_getElem?→Zo
open Nat renaming le_refl→Zt,zero_le→Zw
open Go.Proofs.Tryz renaming prog→Zx
open Value renaming bool→Zy,int→Zz
open Go.ChangeShapes Go.WideShapes Go.RowKit Go.Deep
structure Sl (α:Type) where
 p:Option Addr
 cap:Nat
 l:List α
def Sl.v{α:Type}(s:Sl α):Value:=.slice s.p s.l.length s.cap
structure Sl.In {α:Type} (w:World) (C:Nat) (cells:α→List Value) (K:α→Prop) (s:Sl α):Prop where
 len:s.l.length≤s.cap
 cap:s.cap≤maxLen
 row:Xa w C cells s.p s.l
 kids:∀y∈s.l,K y
theorem Sl.In.plus{α:Type}{w:World}{C:Nat}{cells:α→List Value}{In In':α→Prop}{s:Sl α}(h:s.In w C cells In)(hi:∀y,In y→In' y)(x:ZH):s.In (plus w x) C cells In' :=
 ⟨h.len,h.cap,h.row.plus x,fun y hy=>hi y (h.kids y hy)⟩
def Sl.size{α:Type}(f:α→Nat)(s:Sl α):Nat:=(s.l.map f).sum
def V1(s:ByteArray):List Value:=[.string s]
def V2(s:ByteArray):Prop:=s.size≤maxLen
def Y1(s:ByteArray):Nat:=s.size+1
section
variable {H:Type} {enc:TypeId × Value→H} {w:World} {base:Nat} {spare:Nat→Bool} {YE:Bool}
theorem UE{P:Program}{t e:TypeId}{C fuel:Nat}{α:Type}{cells:α→List Value}{In:α→Prop}{size:α→Nat}{cs:List Value}{x:DataW H × List MemPlace}(ht:P.underlying t=some (.slice e))(hC:P.cellsOf e=C)(ho:∀n,n<fuel→Tq enc P w base spare YE n e cells In size)(h:DataW.trod enc P w base spare YE fuel t cs=some x) :
  ∃s:Sl α,cs=[s.v]∧s.In w C cells In∧s.size size+1≤Rows.uptoBulk x.1:=by
 obtain⟨p,cap,l,h1,h2,h3,h4,h5,h6⟩:=yr ht hC ho h;exact⟨⟨p,cap,l⟩,h1,⟨h2,h3,h4,h5⟩,h6⟩
theorem FD{fuel:Nat}:Tq enc Zx w base spare YE fuel 9 V1 V2 Y1:=by
 intro cs x h;obtain⟨s,e,q,hs⟩:=DataW.trod_string Tryz.underlying9 h;exact⟨s,e,hs,by rw[q];simp[Rows.uptoBulk,Y1]⟩
theorem cB:Zx.cellsOf 4=1:=asC
end
structure Fd where
 name:ByteArray
 w:Int
def Fd.cells(x:Fd):List Value:=[.string x.name,.int .i64 x.w]
structure Fd.In (w:World) (x:Fd):Prop where
 name:x.name.size≤maxLen
 w:(Lit.int .i64 x.w).wf=true
def Fd.sz(x:Fd):Nat:=1+x.name.size
theorem Fd.In.plus{w:World}{s:Fd}(h:s.In w)(_:ZH):s.In (plus w ‹ZH›):=⟨h.name,h.w⟩
theorem KD:Zx.cellsOf 87=2:=asC
section
variable {H:Type} {enc:TypeId × Value→H} {w:World} {base:Nat} {spare:Nat→Bool} {YE:Bool}
theorem FB{fuel:Nat}:Tq enc Zx w base spare YE fuel 87 Fd.cells (Fd.In w) Fd.sz:=by
 intro cs x h;obtain⟨xs,n,rfl,rfl,XF,hxl,hf⟩:=DataW.trod_struct (P:=Zx) Tryz.underlying87 h;have W6:cs.length=2:=XF.trans KD;clear XF h;match cs,W6 with
 | [c0,c1],_ =>
  match xs,hxl with
  | [x0,x1],_ =>
   have h0:DataW.trod enc Zx w base spare YE n 9 [c0]=some x0:=atk;obtain⟨v0,e0,q0,w0⟩:=DataW.trod_string Tryz.underlying9 h0;obtain rfl:=List.head_eq_of_cons_eq e0;have b0:Rows.uptoBulk x0.1=v0.size+1:=atl;have h1:DataW.trod enc Zx w base spare YE n 3 [c1]=some x1:=by simpa [cI]using hf 1 _ rfl
   obtain⟨v1,e1,q1,w1⟩:=DataW.trod_int Tryz.underlying3 h1;obtain rfl:=List.head_eq_of_cons_eq e1;refine⟨⟨v0,v1⟩,rfl,⟨w0,w1⟩,?_⟩;simp only[Zm,List.map_nil,Rows.uptoBulk,Rows.uptoBulkAll,Fd.sz,b0];omega
end
structure Hr where
 name:ByteArray
 fields:Sl Fd
def Hr.cells(x:Hr):List Value:=[.string x.name,x.fields.v]
structure Hr.In (w:World) (x:Hr):Prop where
 name:x.name.size≤maxLen
 fields:x.fields.In w 2 Fd.cells (Fd.In w)
def Hr.sz(x:Hr):Nat:=1+x.name.size+x.fields.size Fd.sz
theorem Hr.In.plus{w:World}{s:Hr}(h:s.In w)(x:ZH):s.In (plus w x):=⟨h.name,h.fields.plus (fun _ a=>a.plus x) x⟩
theorem CF:Zx.cellsOf 66=2:=asC
theorem HH:Zx.cellsOf 23=1:=asC
section
variable {H:Type} {enc:TypeId × Value→H} {w:World} {base:Nat} {spare:Nat→Bool} {YE:Bool}
theorem fT{fuel:Nat}:Tq enc Zx w base spare YE fuel 66 Hr.cells (Hr.In w) Hr.sz:=by
 intro cs x h;obtain⟨xs,n,rfl,rfl,XF,hxl,hf⟩:=DataW.trod_struct (P:=Zx) Tryz.underlying66 h;have W6:cs.length=2:=XF.trans CF;clear XF h;match cs,W6 with
 | [c0,c1],_ =>
  match xs,hxl with
  | [x0,x1],_ =>
   have h0:DataW.trod enc Zx w base spare YE n 9 [c0]=some x0:=atk;obtain⟨v0,e0,q0,w0⟩:=DataW.trod_string Tryz.underlying9 h0;obtain rfl:=List.head_eq_of_cons_eq e0;have b0:Rows.uptoBulk x0.1=v0.size+1:=atl;have h1:DataW.trod enc Zx w base spare YE n 23 [c1]=some x1:=by simpa [HH]using hf 1 _ rfl
   obtain⟨v1,e1,w1,YH⟩:=UE (cells:=Fd.cells) (In:=(Fd.In w)) (size:=Fd.sz) Tryz.underlying23 KD (fun _ _=>FB) h1;obtain rfl:=List.head_eq_of_cons_eq e1;refine⟨⟨v0,v1⟩,rfl,⟨w0,w1⟩,?_⟩;simp only[Zm,List.map_nil,Rows.uptoBulk,Rows.uptoBulkAll,Hr.sz,b0];omega
end
structure Se where
 kind:Int
 v:Lt
 m:Lt
def Se.cells(x:Se):List Value:=[.int .u8 x.kind,.int .i64 x.v.w,.int .u64 x.v.h,.int .u64 x.v.l,.int .i64 x.m.w,.int .u64 x.m.h,.int .u64 x.m.l]
structure Se.In (w:World) (x:Se):Prop where
 kind:(Lit.int .u8 x.kind).wf=true
 v:Lt.Ok x.v
 m:Lt.Ok x.m
def Se.sz(_:Se):Nat:=1
theorem Se.In.plus{w:World}{s:Se}(h:s.In w)(_:ZH):s.In (plus w ‹ZH›):=⟨h.kind,h.v,h.m⟩
theorem CJ:Zx.cellsOf 162=7:=asC
section
variable {H:Type} {enc:TypeId × Value→H} {w:World} {base:Nat} {spare:Nat→Bool} {YE:Bool}
theorem fY{fuel:Nat}:Tq enc Zx w base spare YE fuel 162 Se.cells (Se.In w) Se.sz:=by
 intro cs x h;obtain⟨xs,n,rfl,rfl,XF,hxl,hf⟩:=DataW.trod_struct (P:=Zx) Tryz.underlying162 h;have W6:cs.length=7:=XF.trans CJ;clear XF h;match cs,W6 with
 | [c0,c1,c2,c3,c4,c5,c6],_ =>
  match xs,hxl with
  | [x0,x1,x2],_ =>
   have h0:DataW.trod enc Zx w base spare YE n 5 [c0]=some x0:=by simpa [KF]using hf 0 _ rfl
   obtain⟨v0,e0,q0,w0⟩:=DataW.trod_int Tryz.underlying5 h0;obtain rfl:=List.head_eq_of_cons_eq e0;have h1:DataW.trod enc Zx w base spare YE n 42 [c1,c2,c3]=some x1:=by simpa [MX]using hf 1 _ rfl
   obtain⟨v1,e1,w1,YH⟩:=JH _ _ h1;simp only[Lt.cells,List.cons.injEq,and_true]at e1;obtain⟨rfl,rfl,rfl⟩:=e1;have h2:DataW.trod enc Zx w base spare YE n 42 [c4,c5,c6]=some x2:=by simpa [MX]using hf 2 _ rfl
   obtain⟨v2,e2,w2,Xt⟩:=JH _ _ h2;simp only[Lt.cells,List.cons.injEq,and_true]at e2;obtain⟨rfl,rfl,rfl⟩:=e2;refine⟨⟨v0,v1,v2⟩,rfl,⟨w0,w1,w2⟩,?_⟩;simp only[Zm,List.map_nil,Rows.uptoBulk,Rows.uptoBulkAll,Se.sz];omega
end
structure Ca where
 dflt:Bool
 sets:Sl Se
 tX9:ByteArray
def Ca.cells(x:Ca):List Value:=[.bool x.dflt,x.sets.v,.string x.tX9]
structure Ca.In (w:World) (x:Ca):Prop where
 dflt:True
 sets:x.sets.In w 7 Se.cells (Se.In w)
 tX9:x.tX9.size≤maxLen
def Ca.sz(x:Ca):Nat:=1+x.sets.size Se.sz+x.tX9.size
theorem Ca.In.plus{w:World}{s:Ca}(h:s.In w)(x:ZH):s.In (plus w x):=⟨h.dflt,h.sets.plus (fun _ a=>a.plus x) x,h.tX9⟩
theorem CB:Zx.cellsOf 70=3:=asC
theorem nT:Zx.cellsOf 68=1:=asC
section
variable {H:Type} {enc:TypeId × Value→H} {w:World} {base:Nat} {spare:Nat→Bool} {YE:Bool}
theorem fQ{fuel:Nat}:Tq enc Zx w base spare YE fuel 70 Ca.cells (Ca.In w) Ca.sz:=by
 intro cs x h;obtain⟨xs,n,rfl,rfl,XF,hxl,hf⟩:=DataW.trod_struct (P:=Zx) Tryz.underlying70 h;have W6:cs.length=3:=XF.trans CB;clear XF h;match cs,W6 with
 | [c0,c1,c2],_ =>
  match xs,hxl with
  | [x0,x1,x2],_ =>
   have h0:DataW.trod enc Zx w base spare YE n 4 [c0]=some x0:=by simpa [cB]using hf 0 _ rfl
   obtain⟨v0,e0,q0⟩:=DataW.trod_bool Tryz.underlying4 h0;have w0:=True.intro;obtain rfl:=List.head_eq_of_cons_eq e0;have h1:DataW.trod enc Zx w base spare YE n 68 [c1]=some x1:=by simpa [nT]using hf 1 _ rfl
   obtain⟨v1,e1,w1,YH⟩:=UE (cells:=Se.cells) (In:=(Se.In w)) (size:=Se.sz) Tryz.underlying68 CJ (fun _ _=>fY) h1;obtain rfl:=List.head_eq_of_cons_eq e1;have h2:DataW.trod enc Zx w base spare YE n 9 [c2]=some x2:=atH;obtain⟨v2,e2,q2,w2⟩:=DataW.trod_string Tryz.underlying9 h2;obtain rfl:=List.head_eq_of_cons_eq e2;have b2:Rows.uptoBulk x2.1=v2.size+1:=atI;refine⟨⟨v0,v1,v2⟩,rfl,⟨w0,w1,w2⟩,?_⟩;simp only[Zm,List.map_nil,Rows.uptoBulk,Rows.uptoBulkAll,Ca.sz,b2];omega
end
structure Sa where
 name:ByteArray
 takes:Sl ByteArray
 tX9:ByteArray
 keys:Sl Ex
 cases:Sl Ca
def Sa.cells(x:Sa):List Value:=[.string x.name,x.takes.v,.string x.tX9,x.keys.v,x.cases.v]
structure Sa.In (w:World) (x:Sa):Prop where
 name:x.name.size≤maxLen
 takes:x.takes.In w 1 V1 V2
 tX9:x.tX9.size≤maxLen
 keys:x.keys.In w 9 Ex.cells (Ex.In w)
 cases:x.cases.In w 3 Ca.cells (Ca.In w)
def Sa.sz(x:Sa):Nat:=1+x.name.size+x.takes.size Y1+x.tX9.size+x.keys.size Ex.wt+x.cases.size Ca.sz
theorem Sa.In.plus{w:World}{s:Sa}(h:s.In w)(x:ZH):s.In (plus w x):=⟨h.name,h.takes.plus (fun _ a=>a) x,h.tX9,h.keys.plus (fun _ a=>a.plus x) x,h.cases.plus (fun _ a=>a.plus x) x⟩
theorem CI:Zx.cellsOf 61=5:=asC
theorem HI:Zx.cellsOf 28=1:=asC
theorem nM:Zx.cellsOf 59=1:=asC
section
variable {H:Type} {enc:TypeId × Value→H} {w:World} {base:Nat} {spare:Nat→Bool} {YE:Bool}
theorem fW{fuel:Nat}:Tq enc Zx w base spare YE fuel 61 Sa.cells (Sa.In w) Sa.sz:=by
 intro cs x h;obtain⟨xs,n,rfl,rfl,XF,hxl,hf⟩:=DataW.trod_struct (P:=Zx) Tryz.underlying61 h;have W6:cs.length=5:=XF.trans CI;clear XF h;match cs,W6 with
 | [c0,c1,c2,c3,c4],_ =>
  match xs,hxl with
  | [x0,x1,x2,x3,x4],_ =>
   have h0:DataW.trod enc Zx w base spare YE n 9 [c0]=some x0:=atk;obtain⟨v0,e0,q0,w0⟩:=DataW.trod_string Tryz.underlying9 h0;obtain rfl:=List.head_eq_of_cons_eq e0;have b0:Rows.uptoBulk x0.1=v0.size+1:=atl;have h1:DataW.trod enc Zx w base spare YE n 28 [c1]=some x1:=by simpa [HI]using hf 1 _ rfl
   obtain⟨v1,e1,w1,YH⟩:=UE (cells:=V1) (In:=V2) (size:=Y1) Tryz.underlying28 cS (fun _ _=>FD) h1;obtain rfl:=List.head_eq_of_cons_eq e1;have h2:DataW.trod enc Zx w base spare YE n 9 [c2]=some x2:=atH;obtain⟨v2,e2,q2,w2⟩:=DataW.trod_string Tryz.underlying9 h2;obtain rfl:=List.head_eq_of_cons_eq e2;have b2:Rows.uptoBulk x2.1=v2.size+1:=atI;have h3:DataW.trod enc Zx w base spare YE n 43 [c3]=some x3:=by simpa [CD]using hf 3 _ rfl
   obtain⟨v3,e3,w3,T0⟩:=UE (cells:=Ex.cells) (In:=(Ex.In w)) (size:=Ex.wt) Tryz.underlying43 MW (fun _ _=>FC _) h3;obtain rfl:=List.head_eq_of_cons_eq e3;have h4:DataW.trod enc Zx w base spare YE n 59 [c4]=some x4:=by simpa [nM]using hf 4 _ rfl
   obtain⟨v4,e4,w4,Ul⟩:=UE (cells:=Ca.cells) (In:=(Ca.In w)) (size:=Ca.sz) Tryz.underlying59 CB (fun _ _=>fQ) h4;obtain rfl:=List.head_eq_of_cons_eq e4;refine⟨⟨v0,v1,v2,v3,v4⟩,rfl,⟨w0,w1,w2,w3,w4⟩,?_⟩;simp only[Zm,List.map_nil,Rows.uptoBulk,Rows.uptoBulkAll,Sa.sz,b0,b2];omega
end
inductive St where
 | mk (kind:Int) (head name:ByteArray) (e:Ex) (p:Option Addr) (cap:Nat) (thn:List St) (q:Option Addr) (cbp:Nat) (els:List St)
def St.kind:St→Int|.mk k _ _ _ _ _ _ _ _ _=>k
def St.head:St→ByteArray|.mk _ s _ _ _ _ _ _ _ _=>s
def St.name:St→ByteArray|.mk _ _ s _ _ _ _ _ _ _=>s
def St.e:St→Ex|.mk _ _ _ e _ _ _ _ _ _=>e
def St.p:St→Option Addr|.mk _ _ _ _ p _ _ _ _ _=>p
def St.cap:St→Nat|.mk _ _ _ _ _ c _ _ _ _=>c
def St.thn:St→List St|.mk _ _ _ _ _ _ l _ _ _=>l
def St.q:St→Option Addr|.mk _ _ _ _ _ _ _ q _ _=>q
def St.cbp:St→Nat|.mk _ _ _ _ _ _ _ _ c _=>c
def St.els:St→List St|.mk _ _ _ _ _ _ _ _ _ l=>l
def St.cells(s:St):List Value:=[.int .u8 s.kind,.string s.head,.string s.name,.int .u8 s.e.op,.int .i64 s.e.lit.w,.int .u64 s.e.lit.h,.int .u64 s.e.lit.l,.string s.e.head,.string s.e.name,.int .i64 s.e.hi,.int .i64 s.e.lo,.slice s.e.p s.e.args.length s.e.cap,.slice s.p s.thn.length s.cap,.slice s.q s.els.length s.cbp]
theorem St.ind{Q:St→Prop}(h:∀s:St,(∀x∈s.thn,Q x)→(∀x∈s.els,Q x)→Q s):∀s,Q s:=fun s =>
 St.rec (motive_1:=Q) (motive_2:=fun l=>∀x∈l,Q x) (fun _ _ _ _ _ _ _ _ _ _ i1 i2=>h _ i1 i2) (fun x hx=>by simp at hx) (fun _ _ h1 h2 x hx=>by
  rcases List.mem_cons.1 hx with rfl|hx
  ·exact h1
  ·exact h2 x hx) s
mutual
/-- How many nodes and bytes it has. -/
def St.sz:St→Nat
 | .mk _ hd nm e _ _ thn _ _ els=>1+hd.size+nm.size+e.wt+St.szs thn+St.szs els
def St.szs:List St→Nat
 | []=>0
 | e :: l=>e.sz+St.szs l
end
theorem St.szs_sum:∀l:List St,St.szs l=(l.map St.sz).sum
 | []=>by simp[St.szs]
 | e :: l=>by simp[St.szs,St.szs_sum l]
theorem St.sz_eq(s:St):s.sz=1+s.head.size+s.name.size+s.e.wt+(s.thn.map St.sz).sum+(s.els.map St.sz).sum:=by
 cases s;simp[St.sz,St.szs_sum,St.head,St.name,St.e,St.thn,St.els]
inductive St.In (w:World):St→Prop where
 | mk (s:St) (kind:(Lit.int .u8 s.kind).wf=true) (hd:s.head.size≤maxLen) (nm:s.name.size≤maxLen) (e:s.e.In w)
   (len:s.thn.length≤s.cap) (cap:s.cap≤maxLen) (row:Xa w 14 St.cells s.p s.thn) (kids:∀x∈s.thn,St.In w x)
   (len2:s.els.length≤s.cbp) (cap2:s.cbp≤maxLen) (row2:Xa w 14 St.cells s.q s.els) (kids2:∀x∈s.els,St.In w x):St.In w s
theorem St.In.plus{w:World}{s:St}(h:s.In w)(x:ZH):s.In (plus w x):=by
 induction h with
 | mk s k hd nm e l c r _ l2 c2 r2 _ ih ih2=>exact .mk s k hd nm (e.plus x) l c (r.plus x) ih l2 c2 (r2.plus x) ih2
theorem MY:Zx.cellsOf 47=14:=asC
theorem KE:Zx.cellsOf 27=1:=asC
section
variable {H:Type} {enc:TypeId × Value→H} {w:World} {base:Nat} {spare:Nat→Bool} {YE:Bool}
theorem yq:∀fuel:Nat,Tq enc Zx w base spare YE fuel 47 St.cells (St.In w) St.sz:=by
 intro fuel;induction fuel using Nat.strongRecOn with
 | ind fuel ih =>
 intro cs x h;obtain⟨xs,n,rfl,rfl,XF,hxl,hf⟩:=DataW.trod_struct (P:=Zx) Tryz.underlying47 h;have W6:cs.length=14:=XF.trans MY;clear XF h;match cs,W6 with
 | [c0,c1,c2,c3,c4,c5,c6,c7,c8,c9,c10,c11,c12,c13],_ =>
  match xs,hxl with
  | [x0,x1,x2,x3,x4,x5],_ =>
   have h0:DataW.trod enc Zx w base spare YE n 5 [c0]=some x0:=by simpa [KF]using hf 0 _ rfl
   obtain⟨v0,e0,q0,w0⟩:=DataW.trod_int Tryz.underlying5 h0;obtain rfl:=List.head_eq_of_cons_eq e0;have h1:DataW.trod enc Zx w base spare YE n 9 [c1]=some x1:=by simpa [cS]using hf 1 _ rfl
   obtain⟨v1,e1,q1,w1⟩:=DataW.trod_string Tryz.underlying9 h1;obtain rfl:=List.head_eq_of_cons_eq e1;have b1:Rows.uptoBulk x1.1=v1.size+1:=by rw[q1];simp[Rows.uptoBulk]
   have h2:DataW.trod enc Zx w base spare YE n 9 [c2]=some x2:=atH;obtain⟨v2,e2,q2,w2⟩:=DataW.trod_string Tryz.underlying9 h2;obtain rfl:=List.head_eq_of_cons_eq e2;have b2:Rows.uptoBulk x2.1=v2.size+1:=atI;have h3:DataW.trod enc Zx w base spare YE n 45 [c3,c4,c5,c6,c7,c8,c9,c10,c11]=some x3:=by simpa [MW]using hf 3 _ rfl
   obtain⟨v3,e3,w3,T0⟩:=FC _ _ _ h3;simp only[Ex.cells,List.cons.injEq,and_true]at e3;obtain⟨rfl,rfl,rfl,rfl,rfl,rfl,rfl,rfl,rfl⟩:=e3;have h4:DataW.trod enc Zx w base spare YE n 27 [c12]=some x4:=by simpa [KE]using hf 4 _ rfl
   obtain⟨v4,e4,w4,Ul⟩:=UE (cells:=St.cells) (In:=(St.In w)) (size:=St.sz) Tryz.underlying27 MY (fun m hm=>ih m asB) h4;obtain rfl:=List.head_eq_of_cons_eq e4;have h5:DataW.trod enc Zx w base spare YE n 27 [c13]=some x5:=by simpa [KE]using hf 5 _ rfl
   obtain⟨v5,e5,w5,Kk⟩:=UE (cells:=St.cells) (In:=(St.In w)) (size:=St.sz) Tryz.underlying27 MY (fun m hm=>ih m asB) h5;obtain rfl:=List.head_eq_of_cons_eq e5;refine⟨.mk v0 v1 v2 v3 v4.p v4.cap v4.l v5.p v5.cap v5.l,rfl,.mk _ w0 w1 w2 w3 w4.len w4.cap w4.row w4.kids w5.len w5.cap w5.row w5.kids,?_⟩;rw[St.sz_eq];unfold Sl.size at Ul Kk;simp only[Zm,List.map_nil,Rows.uptoBulk,Rows.uptoBulkAll,b1,b2,St.head,St.name,St.e,St.thn,St.els];omega
end
structure Ac where
 name:ByteArray
 params:Sl Fd
 body:Sl St
def Ac.cells(x:Ac):List Value:=[.string x.name,x.params.v,x.body.v]
structure Ac.In (w:World) (x:Ac):Prop where
 name:x.name.size≤maxLen
 params:x.params.In w 2 Fd.cells (Fd.In w)
 body:x.body.In w 14 St.cells (St.In w)
def Ac.sz(x:Ac):Nat:=1+x.name.size+x.params.size Fd.sz+x.body.size St.sz
theorem Ac.In.plus{w:World}{s:Ac}(h:s.In w)(x:ZH):s.In (plus w x):=⟨h.name,h.params.plus (fun _ a=>a.plus x) x,h.body.plus (fun _ a=>a.plus x) x⟩
theorem Cz:Zx.cellsOf 72=3:=asC
section
variable {H:Type} {enc:TypeId × Value→H} {w:World} {base:Nat} {spare:Nat→Bool} {YE:Bool}
theorem fP{fuel:Nat}:Tq enc Zx w base spare YE fuel 72 Ac.cells (Ac.In w) Ac.sz:=by
 intro cs x h;obtain⟨xs,n,rfl,rfl,XF,hxl,hf⟩:=DataW.trod_struct (P:=Zx) Tryz.underlying72 h;have W6:cs.length=3:=XF.trans Cz;clear XF h;match cs,W6 with
 | [c0,c1,c2],_ =>
  match xs,hxl with
  | [x0,x1,x2],_ =>
   have h0:DataW.trod enc Zx w base spare YE n 9 [c0]=some x0:=atk;obtain⟨v0,e0,q0,w0⟩:=DataW.trod_string Tryz.underlying9 h0;obtain rfl:=List.head_eq_of_cons_eq e0;have b0:Rows.uptoBulk x0.1=v0.size+1:=atl;have h1:DataW.trod enc Zx w base spare YE n 23 [c1]=some x1:=by simpa [HH]using hf 1 _ rfl
   obtain⟨v1,e1,w1,YH⟩:=UE (cells:=Fd.cells) (In:=(Fd.In w)) (size:=Fd.sz) Tryz.underlying23 KD (fun _ _=>FB) h1;obtain rfl:=List.head_eq_of_cons_eq e1;have h2:DataW.trod enc Zx w base spare YE n 27 [c2]=some x2:=by simpa [KE]using hf 2 _ rfl
   obtain⟨v2,e2,w2,Xt⟩:=UE (cells:=St.cells) (In:=(St.In w)) (size:=St.sz) Tryz.underlying27 MY (fun _ _=>yq _) h2;obtain rfl:=List.head_eq_of_cons_eq e2;refine⟨⟨v0,v1,v2⟩,rfl,⟨w0,w1,w2⟩,?_⟩;simp only[Zm,List.map_nil,Rows.uptoBulk,Rows.uptoBulkAll,Ac.sz,b0];omega
end
structure Ke where
 e:Ex
 kind:Int
def Ke.cells(x:Ke):List Value:=[.int .u8 x.e.op,.int .i64 x.e.lit.w,.int .u64 x.e.lit.h,.int .u64 x.e.lit.l,.string x.e.head,.string x.e.name,.int .i64 x.e.hi,.int .i64 x.e.lo,.slice x.e.p x.e.args.length x.e.cap,.int .u8 x.kind]
structure Ke.In (w:World) (x:Ke):Prop where
 e:(Ex.In w) x.e
 kind:(Lit.int .u8 x.kind).wf=true
def Ke.sz(x:Ke):Nat:=1+Ex.wt x.e
theorem Ke.In.plus{w:World}{s:Ke}(h:s.In w)(x:ZH):s.In (plus w x):=⟨h.e.plus x,h.kind⟩
theorem CG:Zx.cellsOf 52=10:=asC
section
variable {H:Type} {enc:TypeId × Value→H} {w:World} {base:Nat} {spare:Nat→Bool} {YE:Bool}
theorem fU{fuel:Nat}:Tq enc Zx w base spare YE fuel 52 Ke.cells (Ke.In w) Ke.sz:=by
 intro cs x h;obtain⟨xs,n,rfl,rfl,XF,hxl,hf⟩:=DataW.trod_struct (P:=Zx) Tryz.underlying52 h;have W6:cs.length=10:=XF.trans CG;clear XF h;match cs,W6 with
 | [c0,c1,c2,c3,c4,c5,c6,c7,c8,c9],_ =>
  match xs,hxl with
  | [x0,x1],_ =>
   have h0:DataW.trod enc Zx w base spare YE n 45 [c0,c1,c2,c3,c4,c5,c6,c7,c8]=some x0:=by simpa [MW]using hf 0 _ rfl
   obtain⟨v0,e0,w0,WH⟩:=FC _ _ _ h0;simp only[Ex.cells,List.cons.injEq,and_true]at e0;obtain⟨rfl,rfl,rfl,rfl,rfl,rfl,rfl,rfl,rfl⟩:=e0;have h1:DataW.trod enc Zx w base spare YE n 5 [c9]=some x1:=by simpa [KF]using hf 1 _ rfl
   obtain⟨v1,e1,q1,w1⟩:=DataW.trod_int Tryz.underlying5 h1;obtain rfl:=List.head_eq_of_cons_eq e1;refine⟨⟨v0,v1⟩,rfl,⟨w0,w1⟩,?_⟩;simp only[Zm,List.map_nil,Rows.uptoBulk,Rows.uptoBulkAll,Ke.sz];omega
end
structure Cl where
 name:ByteArray
 args:Sl Lt
def Cl.cells(x:Cl):List Value:=[.string x.name,x.args.v]
structure Cl.In (w:World) (x:Cl):Prop where
 name:x.name.size≤maxLen
 args:x.args.In w 3 Lt.cells Lt.Ok
def Cl.sz(x:Cl):Nat:=x.name.size+x.args.size (fun _=>1)
theorem Cl.In.plus{w:World}{s:Cl}(h:s.In w)(x:ZH):s.In (plus w x):=⟨h.name,h.args.plus (fun _ a=>a) x⟩
theorem CC:Zx.cellsOf 56=2:=asC
theorem nQ:Zx.cellsOf 54=1:=asC
section
variable {H:Type} {enc:TypeId × Value→H} {w:World} {base:Nat} {spare:Nat→Bool} {YE:Bool}
theorem fR{fuel:Nat}:Tq enc Zx w base spare YE fuel 56 Cl.cells (Cl.In w) Cl.sz:=by
 intro cs x h;obtain⟨xs,n,rfl,rfl,XF,hxl,hf⟩:=DataW.trod_struct (P:=Zx) Tryz.underlying56 h;have W6:cs.length=2:=XF.trans CC;clear XF h;match cs,W6 with
 | [c0,c1],_ =>
  match xs,hxl with
  | [x0,x1],_ =>
   have h0:DataW.trod enc Zx w base spare YE n 9 [c0]=some x0:=atk;obtain⟨v0,e0,q0,w0⟩:=DataW.trod_string Tryz.underlying9 h0;obtain rfl:=List.head_eq_of_cons_eq e0;have b0:Rows.uptoBulk x0.1=v0.size+1:=atl;have h1:DataW.trod enc Zx w base spare YE n 54 [c1]=some x1:=by simpa [nQ]using hf 1 _ rfl
   obtain⟨v1,e1,w1,YH⟩:=UE (cells:=Lt.cells) (In:=Lt.Ok) (size:=(fun _=>1)) Tryz.underlying54 MX (fun _ _=>JH) h1;obtain rfl:=List.head_eq_of_cons_eq e1;refine⟨⟨v0,v1⟩,rfl,⟨w0,w1⟩,?_⟩;simp only[Zm,List.map_nil,Rows.uptoBulk,Rows.uptoBulkAll,Cl.sz,b0];omega
end
structure Ta where
 name:ByteArray
 keys:Sl Ke
 actions:Sl ByteArray
 dflt:Cl
def Ta.cells(x:Ta):List Value:=[.string x.name,x.keys.v,x.actions.v,.string x.dflt.name,x.dflt.args.v]
structure Ta.In (w:World) (x:Ta):Prop where
 name:x.name.size≤maxLen
 keys:x.keys.In w 10 Ke.cells (Ke.In w)
 actions:x.actions.In w 1 V1 V2
 dflt:(Cl.In w) x.dflt
def Ta.sz(x:Ta):Nat:=1+x.name.size+x.keys.size Ke.sz+x.actions.size Y1+Cl.sz x.dflt
theorem Ta.In.plus{w:World}{s:Ta}(h:s.In w)(x:ZH):s.In (plus w x):=⟨h.name,h.keys.plus (fun _ a=>a.plus x) x,h.actions.plus (fun _ a=>a) x,h.dflt.plus x⟩
theorem CK:Zx.cellsOf 58=5:=asC
theorem nP:Zx.cellsOf 53=1:=asC
section
variable {H:Type} {enc:TypeId × Value→H} {w:World} {base:Nat} {spare:Nat→Bool} {YE:Bool}
theorem fZ{fuel:Nat}:Tq enc Zx w base spare YE fuel 58 Ta.cells (Ta.In w) Ta.sz:=by
 intro cs x h;obtain⟨xs,n,rfl,rfl,XF,hxl,hf⟩:=DataW.trod_struct (P:=Zx) Tryz.underlying58 h;have W6:cs.length=5:=XF.trans CK;clear XF h;match cs,W6 with
 | [c0,c1,c2,c3,c4],_ =>
  match xs,hxl with
  | [x0,x1,x2,x3],_ =>
   have h0:DataW.trod enc Zx w base spare YE n 9 [c0]=some x0:=atk;obtain⟨v0,e0,q0,w0⟩:=DataW.trod_string Tryz.underlying9 h0;obtain rfl:=List.head_eq_of_cons_eq e0;have b0:Rows.uptoBulk x0.1=v0.size+1:=atl;have h1:DataW.trod enc Zx w base spare YE n 53 [c1]=some x1:=by simpa [nP]using hf 1 _ rfl
   obtain⟨v1,e1,w1,YH⟩:=UE (cells:=Ke.cells) (In:=(Ke.In w)) (size:=Ke.sz) Tryz.underlying53 CG (fun _ _=>fU) h1;obtain rfl:=List.head_eq_of_cons_eq e1;have h2:DataW.trod enc Zx w base spare YE n 28 [c2]=some x2:=by simpa [HI]using hf 2 _ rfl
   obtain⟨v2,e2,w2,Xt⟩:=UE (cells:=V1) (In:=V2) (size:=Y1) Tryz.underlying28 cS (fun _ _=>FD) h2;obtain rfl:=List.head_eq_of_cons_eq e2;have h3:DataW.trod enc Zx w base spare YE n 56 [c3,c4]=some x3:=by simpa [CC]using hf 3 _ rfl
   obtain⟨v3,e3,w3,T0⟩:=fR _ _ h3;simp only[Cl.cells,List.cons.injEq,and_true]at e3;obtain⟨rfl,rfl⟩:=e3;refine⟨⟨v0,v1,v2,v3⟩,rfl,⟨w0,w1,w2,w3⟩,?_⟩;simp only[Zm,List.map_nil,Rows.uptoBulk,Rows.uptoBulkAll,Ta.sz,b0];omega
end
structure Pr where
 headers:Sl Hr
 metas:Sl Fd
 states:Sl Sa
 actions:Sl Ac
 tables:Sl Ta
 control:Sl St
 emit:Sl ByteArray
def Pr.cells(x:Pr):List Value:=[x.headers.v,x.metas.v,x.states.v,x.actions.v,x.tables.v,x.control.v,x.emit.v]
structure Pr.In (w:World) (x:Pr):Prop where
 headers:x.headers.In w 2 Hr.cells (Hr.In w)
 metas:x.metas.In w 2 Fd.cells (Fd.In w)
 states:x.states.In w 5 Sa.cells (Sa.In w)
 actions:x.actions.In w 3 Ac.cells (Ac.In w)
 tables:x.tables.In w 5 Ta.cells (Ta.In w)
 control:x.control.In w 14 St.cells (St.In w)
 emit:x.emit.In w 1 V1 V2
def Pr.sz(x:Pr):Nat:=x.headers.size Hr.sz+x.metas.size Fd.sz+x.states.size Sa.sz+x.actions.size Ac.sz+x.tables.size Ta.sz+x.control.size St.sz+x.emit.size Y1
theorem Pr.In.plus{w:World}{s:Pr}(h:s.In w)(x:ZH):s.In (plus w x):=⟨h.headers.plus (fun _ a=>a.plus x) x,h.metas.plus (fun _ a=>a.plus x) x,h.states.plus (fun _ a=>a.plus x) x,h.actions.plus (fun _ a=>a.plus x) x,h.tables.plus (fun _ a=>a.plus x) x,h.control.plus (fun _ a=>a.plus x) x,h.emit.plus (fun _ a=>a) x⟩
theorem nK:Zx.cellsOf 30=7:=asC
theorem nN:Zx.cellsOf 22=1:=asC
theorem nR:Zx.cellsOf 24=1:=asC
theorem nL:Zx.cellsOf 25=1:=asC
theorem nU:Zx.cellsOf 26=1:=asC
section
variable {H:Type} {enc:TypeId × Value→H} {w:World} {base:Nat} {spare:Nat→Bool} {YE:Bool}
theorem fV{fuel:Nat}:Tq enc Zx w base spare YE fuel 30 Pr.cells (Pr.In w) Pr.sz:=by
 intro cs x h;obtain⟨xs,n,rfl,rfl,XF,hxl,hf⟩:=DataW.trod_struct (P:=Zx) Tryz.underlying30 h;have W6:cs.length=7:=XF.trans nK;clear XF h;match cs,W6 with
 | [c0,c1,c2,c3,c4,c5,c6],_ =>
  match xs,hxl with
  | [x0,x1,x2,x3,x4,x5,x6],_ =>
   have h0:DataW.trod enc Zx w base spare YE n 22 [c0]=some x0:=by simpa [nN]using hf 0 _ rfl
   obtain⟨v0,e0,w0,WH⟩:=UE (cells:=Hr.cells) (In:=(Hr.In w)) (size:=Hr.sz) Tryz.underlying22 CF (fun _ _=>fT) h0;obtain rfl:=List.head_eq_of_cons_eq e0;have h1:DataW.trod enc Zx w base spare YE n 23 [c1]=some x1:=by simpa [HH]using hf 1 _ rfl
   obtain⟨v1,e1,w1,YH⟩:=UE (cells:=Fd.cells) (In:=(Fd.In w)) (size:=Fd.sz) Tryz.underlying23 KD (fun _ _=>FB) h1;obtain rfl:=List.head_eq_of_cons_eq e1;have h2:DataW.trod enc Zx w base spare YE n 24 [c2]=some x2:=by simpa [nR]using hf 2 _ rfl
   obtain⟨v2,e2,w2,Xt⟩:=UE (cells:=Sa.cells) (In:=(Sa.In w)) (size:=Sa.sz) Tryz.underlying24 CI (fun _ _=>fW) h2;obtain rfl:=List.head_eq_of_cons_eq e2;have h3:DataW.trod enc Zx w base spare YE n 25 [c3]=some x3:=by simpa [nL]using hf 3 _ rfl
   obtain⟨v3,e3,w3,T0⟩:=UE (cells:=Ac.cells) (In:=(Ac.In w)) (size:=Ac.sz) Tryz.underlying25 Cz (fun _ _=>fP) h3;obtain rfl:=List.head_eq_of_cons_eq e3;have h4:DataW.trod enc Zx w base spare YE n 26 [c4]=some x4:=by simpa [nU]using hf 4 _ rfl
   obtain⟨v4,e4,w4,Ul⟩:=UE (cells:=Ta.cells) (In:=(Ta.In w)) (size:=Ta.sz) Tryz.underlying26 CK (fun _ _=>fZ) h4;obtain rfl:=List.head_eq_of_cons_eq e4;have h5:DataW.trod enc Zx w base spare YE n 27 [c5]=some x5:=by simpa [KE]using hf 5 _ rfl
   obtain⟨v5,e5,w5,Kk⟩:=UE (cells:=St.cells) (In:=(St.In w)) (size:=St.sz) Tryz.underlying27 MY (fun _ _=>yq _) h5;obtain rfl:=List.head_eq_of_cons_eq e5;have h6:DataW.trod enc Zx w base spare YE n 28 [c6]=some x6:=by simpa [HI]using hf 6 _ rfl
   obtain⟨v6,e6,w6,O9⟩:=UE (cells:=V1) (In:=V2) (size:=Y1) Tryz.underlying28 cS (fun _ _=>FD) h6;obtain rfl:=List.head_eq_of_cons_eq e6;refine⟨⟨v0,v1,v2,v3,v4,v5,v6⟩,rfl,⟨w0,w1,w2,w3,w4,w5,w6⟩,?_⟩;simp only[Zm,List.map_nil,Rows.uptoBulk,Rows.uptoBulkAll,Pr.sz];omega
end
abbrev Wo(P:Program)(w:World)(f:FuncId)(args:Array Value)(v:Value):Prop:=∀y,Calls P f args (plus w y) fun e w'=>e=.returned v∧∃x,w'=plus w x
theorem Eh(s:ByteArray):1≤Y1 s:=as8
theorem Fd.sz_pos(s:Fd):1≤s.sz:=atm
theorem xo:∀l:List ByteArray,(l.map Y1).sum=(l.map ByteArray.size).sum+l.length
 | []=>rfl
 | a :: l=>by
  have:=xo l;simp only[Zm,List.sum_cons,Zk,Y1];omega
theorem xm:∀l:List Fd,(l.map Fd.sz).sum=(l.map fun x=>x.name.size).sum+l.length
 | []=>rfl
 | a :: l=>by
  have:=xm l;simp only[Zm,List.sum_cons,Zk,Fd.sz];omega
theorem yP(L:Sl ByteArray)(w:World)(ZF:L.In w 1 V1 V2)(hb:L.size Y1≤1048576):Wo Zx w 13 #[L.v] (.int .i64 (L.size Y1:Int)):=by
 intro y0;obtain⟨p,cap,l⟩:=L;obtain⟨h1,h2,Yj,_⟩:=ZF;simp only[Sl.size,Sl.v]at hb h1 Yj ⊢;have hn:∃n,l.length=n:=⟨_,rfl⟩;obtain⟨n,hn⟩:=hn;have hl:n≤1048576:=by have:=XM Y1 Eh l;omega
 have RH:(l.map Y1).sum=(l.map ByteArray.size).sum+n:=by rw[←hn];exact xo l
 rw[hn];have hR:∃R,(l.map Y1).sum=R:=⟨_,rfl⟩;open Z renaming aiN→Ay in exact uz
theorem FX(L:Sl Fd)(w:World)(ZF:L.In w 2 Fd.cells (Fd.In w))(hb:L.size Fd.sz≤1048576):Wo Zx w 11 #[L.v] (.int .i64 (L.size Fd.sz:Int)):=by
 intro y0;obtain⟨p,cap,l⟩:=L;obtain⟨h1,h2,Yj,_⟩:=ZF;simp only[Sl.size,Sl.v]at hb h1 Yj ⊢;have hn:∃n,l.length=n:=⟨_,rfl⟩;obtain⟨n,hn⟩:=hn;have hl:n≤1048576:=by have:=XM Fd.sz Fd.sz_pos l;omega
 have RH:(l.map Fd.sz).sum=(l.map fun x=>x.name.size).sum+n:=by rw[←hn];exact xm l
 rw[hn];have hR:∃R,(l.map Fd.sz).sum=R:=⟨_,rfl⟩;open Z renaming aiO→Ay in exact uz
end Go.Proofs.YtknmeggfokpbjaaGreat

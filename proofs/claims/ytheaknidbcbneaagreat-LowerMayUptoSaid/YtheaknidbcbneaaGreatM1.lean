/-
  WHAT IS PROVED HERE: a part of the proof (made narrower and merged by program; the parts: Kit).
-/
import Derived.Test.YtheaknidbcbneaaGreatRows
import Derived.BigQuiet
import Derived.StillTail
import Derived.Below
set_option maxRecDepth 100000
set_option maxHeartbeats 8000000
set_option linter.all false
namespace Go.Proofs.YtheaknidbcbneaaGreat
open Go.RowKit Go.Proofs.Tryz
open Below renaming refl→Zc
open Bool renaming and_eq_true→Zd
open List renaming getElem?_eq_getElem→Zi
open Nat renaming le_refl→Zp
open Go.RowKit
theorem Zv{α:Sort _}(a:α):∃b,a=b:=⟨a,rfl⟩
theorem Z6{α:Type}(l:List α)(k:Nat)(h:k<l.length):∃x,l[k]?=some x:=⟨l[k]'h,Zi _⟩
structure ZA where
 blocks:Array Obj
 draws:Nat
 deriving Inhabited
def plus(w:World)(x:ZA):World:={ w with heap:=w.heap++x.blocks,drawn:=x.draws }
theorem ZS{w w':World}(h:Below w.heap.size w w'):∃x,w'=plus w x:=by
 obtain⟨h1,h2,h3,h4,h5⟩:=h;refine⟨⟨w'.heap.extract w.heap.size w'.heap.size,w'.drawn⟩,?_⟩;obtain⟨heap',tape',drawn',os',output'⟩:=w';obtain⟨heap,tape,drawn,os,output⟩:=w;simp only at h1 h2 h3 h4 h5;subst h1 h2 h3;simp only[plus,World.mk.injEq,and_true];apply Array.ext_getElem?;intro i;rw[Array.getElem?_append];split
 ·rename_i hi;exact h5 i hi
 ·rename_i hi
  simp only[Array.getElem?_extract];by_cases hi':i<heap'.size
  ·rw[if_pos (by omega)];congr 1;omega
  ·rw[if_neg (by omega)];simp;omega
theorem Z9(w:World)(x:ZA):Below w.heap.size w (plus w x) :=
 ⟨rfl,rfl,rfl,by simp[plus],fun k hk=>by simp[plus,Array.getElem?_append,hk]⟩
theorem Zx(w:World)(x y:ZA):plus (plus w x) y=plus w ⟨x.blocks++y.blocks,y.draws⟩:=by
 simp[plus,Array.append_assoc]
theorem RM(w:World)(n:Nat):({ w with drawn:=n }:World)=plus w ⟨#[],n⟩:=by simp[plus]
section
variable {P:Program} {ops:Array Oper} {md:Region.Mode} {C:World→Prop}
theorem Ns{Q:Exit→Act→World→Prop}:∀(fuel:Nat) (listed:Array Bool) (a:Act) (w:World),wpAny P md ops Q fuel listed a w→wpAny P md ops Q (fuel+1) listed a w
 | 0,listed,a,w,h=>⟨fun _=>h.2,fun i hi=>by rw[h.1]at hi;cases hi⟩
 | fuel+1,listed,a,w,h=>⟨h.1,fun i hi=>wpOp_mono (fun a' w' h'=>Ns fuel _ a' w' h') (h.2 i hi)⟩
theorem Nr{Q:Exit→Act→World→Prop}(g:Nat):∀(k:Nat) (listed:Array Bool) (a:Act) (w:World),wpAny P md ops Q g listed a w→wpAny P md ops Q (k+g) listed a w
 | 0,_,_,_,h=>by rw[Nat.zero_add];exact h
 | k+1,l,a,w,h=>by rw[show k+1+g=(k+g)+1 by omega];exact Ns _ _ _ _ (Nr g k l a w h)
def Qu(md:Region.Mode)(ops:Array Oper)(n:Nat):Bool :=
 decide (n<ops.size)&&Region.sinkB md ops n&&Region.chainB md ops n&&(List.range ops.size).all fun t=>match ops[t]? with
  | some o=>(o.after.all fun e=>!Region.binds md e||decide (e.on<t))&&(match o.guard with|some (g,_)=>decide (g<t)|none=>true)
  | none=>true
structure TJ (md:Region.Mode) (ops:Array Oper) (n:Nat):Prop where
 lt:n<ops.size
 sink:Region.sinkB md ops n=true
 chain:Region.chainB md ops n=true
 back:∀t (o:Oper),ops[t]?=some o→∀e∈o.after,Region.binds md e=true→e.on<t
 guard:∀t (o:Oper) g b,ops[t]?=some o→o.guard=some (g,b)→g<t
theorem Fp{n:Nat}(h:Qu md ops n=true):TJ md ops n:=by
 unfold Qu at h;simp only[Zd,decide_eq_true_eq,List.all_eq_true,List.mem_range]at h;obtain⟨⟨⟨hn,hs⟩,hc⟩,h⟩:=h;have H:=fun t (o:Oper) (ho:ops[t]?=some o)=>h t (Array.getElem?_eq_some_iff.1 ho).1;refine⟨hn,hs,hc,fun t o ho e he hb=>?_,fun t o g b ho hg=>?_⟩
 ·have:=H t o ho
  simp only[ho,Zd]at this;have:=(Array.all_eq_true_iff_forall_mem.1 this.1) e he;simpa [hb]using this
 ·have:=H t o ho
  simp only[ho,hg,Zd,decide_eq_true_eq]at this;exact this.2
theorem S7{n i:Nat}(hn:n≤ops.size)(hi:i<n):(ops.extract 0 n)[i]?=ops[i]?:=by
 simp only[Array.getElem?_extract];rw[if_pos (by omega)];simp
structure UZ (n size:Nat) (lh l:Array Bool):Prop where
 sh:lh.size=n
 s:l.size=size
 le:n≤size
 same:∀i d,i<n→lh.getD i d=l.getD i d
 tail:∀i,n≤i→i<size→l.getD i true=false
theorem UZ.set{n size i:Nat}{lh l:Array Bool}(h:UZ n size lh l)(hi:i<n):UZ n size (lh.setIfInBounds i true) (l.setIfInBounds i true):=by
 refine⟨by simp[h.sh],by simp[h.s],h.le,fun j d hj=>?_,fun j hj hjs=>?_⟩
 ·by_cases hij:i=j
  ·subst hij
   have h1:i<lh.size:=by rw[h.sh];exact hi
   have h2:i<l.size:=by rw[h.s];have:=h.le;omega
   simp[Array.getD,h1,h2]
  ·rw[getD_set_ne d hij,getD_set_ne d hij];exact h.same j d hj
 ·rw[getD_set_ne true (by omega)];exact h.tail j hj hjs
theorem Ot{n i:Nat}{lh l:Array Bool}(ok:TJ md ops n)(h:UZ n ops.size lh l)(hi:i<n) :
  i∈Region.ready md ops l↔i∈Region.ready md (ops.extract 0 n) lh:=by
 have hn:n≤ops.size:=Nat.le_of_lt ok.lt;rw[mem_ready,mem_ready,S7 hn hi,h.same i true hi];constructor
 ·rintro⟨h1,o,ho,VG⟩
  exact⟨h1,o,ho,fun e he hb=>by have Zz:=ok.back i o ho e he hb;rw[h.same e.on false (by omega)];exact VG e he hb⟩
 ·rintro⟨h1,o,ho,VG⟩
  exact⟨h1,o,ho,fun e he hb=>by have Zz:=ok.back i o ho e he hb;rw[←h.same e.on false (by omega)];exact VG e he hb⟩
theorem Qe{n:Nat}{lh l:Array Bool}(ok:TJ md ops n)(h:UZ n ops.size lh l) :
  ∀(k i:Nat),i<k→i<n→lh.getD i true=false→Region.ready md (ops.extract 0 n) lh≠[]
 | 0,_,hk,_,_=>by omega
 | k+1,i,hk,hi,hu=>by
  intro hr;have hn:n≤ops.size:=Nat.le_of_lt ok.lt;have hio:i<ops.size:=by omega
  have ho:ops[i]?=some ops[i]:=Array.getElem?_eq_getElem hio;have:i ∉ Region.ready md (ops.extract 0 n) lh:=by rw[hr];simp
  apply this;rw[mem_ready];refine⟨hu,ops[i],by rw[S7 hn hi];exact ho,fun e he hb=>?_⟩;have Zz:=ok.back i _ ho e he hb;cases hl:lh.getD e.on false with
  | true=>rfl
  | false =>
   have hs:e.on<lh.size:=by rw[h.sh];omega
   exact absurd hr (Qe ok h k e.on (by omega) (by omega) (by simpa [Array.getD,hs]using hl))
theorem FT{n i:Nat}{o:Oper}(ok:TJ md ops n)(hi:i<n)(ho:ops[i]?=some o)(tmps:Array Value) :
  Region.wanted o (yielded ops tmps)=Region.wanted o (yielded (ops.extract 0 n) tmps):=by
 have hn:n≤ops.size:=Nat.le_of_lt ok.lt;unfold Region.wanted;cases hg:o.guard with
 | none=>rfl
 | some gb =>
  obtain⟨g,b⟩:=gb;have:=ok.guard i o g b ho hg;simp only[yielded];rw[S7 hn (by omega)]
theorem Ht{n i:Nat}(ok:TJ md ops n)(hi:i<n){K:Act→Prop}{a:Act}(h:qOp P (ops.extract 0 n) C i K a):qOp P ops C i K a:=by
 have hn:n≤ops.size:=Nat.le_of_lt ok.lt;unfold qOp at *;rw[S7 hn hi]at h;have hio:i<ops.size:=by omega
 have ho:ops[i]?=some ops[i]:=Array.getElem?_eq_getElem hio;simp only[ho]at h ⊢;rw[FT ok hi ho];exact h
theorem FZ{n g:Nat}{Q:Exit→Act→World→Prop}{Lq:Act→Prop}(ok:TJ md ops n)(hL:∀lh l a w,UZ n ops.size lh l→(∀i,i<n→lh.getD i true=true)→C w→Lq a→wpAny P md ops Q g l a w) :
  ∀(fuel:Nat) (lh l:Array Bool) (a:Act) (w:World),UZ n ops.size lh l→HeadInv md ops n l→C w→wpAnyQ P md (ops.extract 0 n) C Lq fuel lh a→wpAny P md ops Q (fuel+g) l a w:=by
 intro fuel;induction fuel with
 | zero =>
  intro lh l a w hh _ hw h;rw[Nat.zero_add];refine hL lh l a w hh (fun i hi=>?_) hw h.2;cases hl:lh.getD i true with
  | true=>rfl
  | false=>exact absurd h.1 (Qe ok hh (i+1) i (by omega) hi hl)
 | succ fuel ih =>
  intro lh l a w hh inv hw h;by_cases VG:∀i,i<n→lh.getD i true=true
  ·refine Nr g (fuel+1) l a w (hL lh l a w hh VG hw (h.1 ?_))
   cases hr:Region.ready md (ops.extract 0 n) lh with
   | nil=>rfl
   | cons x xs =>
    have hx:x∈Region.ready md (ops.extract 0 n) lh:=by rw[hr];simp
    obtain⟨h1,o,ho,_⟩:=mem_ready.1 hx;have Wn:x<n:=by have:=(Array.getElem?_eq_some_iff.1 ho).1;simp at this;omega
    rw[VG x Wn]at h1;cases h1
  ·obtain⟨i,hi⟩:=Classical.not_forall.1 VG
   obtain⟨ZQ,hu⟩:=Classical.not_imp.1 hi;have hu':lh.getD i true=false:=by simpa using hu
   rw[show fuel+1+g=(fuel+g)+1 by omega];refine⟨fun h0=>?_,fun j hj=>?_⟩
   ·have YP:=Qe ok hh (i+1) i (by omega) ZQ hu'
    cases hr:Region.ready md (ops.extract 0 n) lh with
    | nil=>exact absurd hr YP
    | cons x xs =>
     have hx:x∈Region.ready md (ops.extract 0 n) lh:=by rw[hr];simp
     obtain⟨_,o,ho,_⟩:=mem_ready.1 hx;have Wn:x<n:=by have:=(Array.getElem?_eq_some_iff.1 ho).1;simp at this;omega
     have:=(Ot ok hh Wn).2 hx;rw[h0]at this;cases this
   ·by_cases hjn:j<n
    ·exact wpOp_of_qOp hw (fun a' w' hw' h'=>ih _ _ a' w' (hh.set hjn) (inv.set hj hjn) hw' h') (Ht ok hjn (h.2 j ((Ot ok hh hjn).1 hj)))
    ·exact absurd hj (tail_waits ok.sink ok.chain ok.lt inv _ i rfl ZQ (by rw[←hh.same i true ZQ];exact hu') j (by omega))
def Rj(l:List Oper)(n:Nat):Bool :=
 Qu .any l.toArray n&&Region.lexB .any (l.take n).toArray&&Region.seqB .any l.toArray (l.length-n) n (Array.replicate n true++Array.replicate (l.length-n) false)
theorem Nv{id:Nat}{Q:Exit→Act→World→Prop}{a:Act}{w:World}{l:List Oper}(n:Nat)(C:World→Prop)(hm:P.follows .mixedOrders=true)(hB:Rj l n=true)(hC:C { w with drawn:=w.drawn+1 })(h:wpQuiet P (l.take n).toArray C (fun a'=>∀w',C w'→wpList P l.toArray Q (l.drop n) a' w') (l.take n) a):(Code.region id l.toArray true).wp P Q a w:=by
 simp only[Rj,Zd]at hB;obtain⟨⟨h1,h2⟩,h3⟩:=hB;have ok:=Fp h1;have hn:n<l.length:=by simpa using ok.lt
 simp only[Region.lexB,Zd]at h2;have hext:l.toArray.extract 0 n=(l.take n).toArray:=by simp
 have hq:=wpAnyQ_lex (C:=C) (md:=.any) h2.1 (l.take n) 0 (Array.replicate (l.take n).toArray.size false) a (by simp) (by simpa using h2.2) h;refine wp_region_any hm ?_;have Yq:(l.take n).length=n:=by simp;omega
 have:=FZ (P:=P) (md:=.any) (C:=C) (Q:=Q) (g:=l.length-n) (Lq:=fun a'=>∀w',C w'→wpList P l.toArray Q (l.drop n) a' w') ok ?_ (l.take n).length (Array.replicate (l.take n).toArray.size false) (Array.replicate l.toArray.size false) a { w with drawn:=w.drawn+1 } ?_ ⟨by simp,fun j oj _ hl=>(by rw[getD_replicate_false]at hl;cases hl),fun t _ ht=>getD_in (by simpa using ht) (getD_replicate_false _ _)⟩ hC (by rw[hext];exact hq)
 ·rw[Yq,show n+(l.length-n)=l.toArray.size by simp;omega]at this
  exact this
 ·intro lh l' a' w' hh VG hw' hl
  have ZX:l'=Array.replicate n true++Array.replicate (l.length-n) false:=by
   apply Array.ext
   ·rw[hh.s];simp;omega
   ·intro i Ws WH
    have hs:=hh.s;by_cases hi:i<n
    ·have e1:=VG i hi
     rw[hh.same i true hi]at e1;simp[Array.getD,Ws]at e1;rw[e1,Array.getElem_append_left (by simpa using hi)];simp
    ·have e1:=hh.tail i (by omega) (by rw[←hs];exact Ws)
     simp[Array.getD,Ws]at e1;rw[e1,Array.getElem_append_right (by simp;omega)];simp
  have hd:(l.drop n).length=l.length-n:=by simp
  have:=wpAny_of_seq (P:=P) (md:=.any) (ops:=l.toArray) (Q':=Q) (l.drop n) n l' a' w' (fun j=>by simp[List.getElem?_drop]) (by rw[hd,ZX];exact h3) (hl w' hw');rwa [hd]at this
 ·refine⟨by simp;omega,by simp,by simp;omega,fun i d hi=>?_,fun i _ hi=>?_⟩
  ·have WH:i<l.length:=by omega
   simp[Array.getD,WH];intro hc;omega
  ·simp only[Array.getD];split <;> simp_all
def Xp(P:Program)(f:FuncId)(args:Array Value)(v:Value):Prop:=∀w,Calls P f args w fun e w'=>e=.returned v∧∃x,w'=plus w x
theorem Xp.at{f:FuncId}{args:Array Value}{v:Value}(h:Xp P f args v)(w:World)(x:ZA) :
  Calls P f args (plus w x) fun e w'=>e=.returned v∧∃y,w'=plus w y :=
 (h _).mono fun _ _ ⟨he,y,hy⟩=>⟨he,⟨x.blocks++y.blocks,y.draws⟩,by rw[hy,Zx]⟩
theorem Xp.eqv{f:FuncId}{args:Array Value}{v v':Value}(h:Xp P f args v)(e:v=v'):Xp P f args v':=e▸h
theorem ZP{id:Nat}{Q:Exit→Act→World→Prop}{a:Act}{w0:World}{x:ZA}{l:List Oper}(hm:P.follows .mixedOrders=true)(hB:Region.lexB .any l.toArray=true)(h:wpQuiet P l.toArray (fun w'=>∃y,w'=plus w0 y) (fun a'=>∀w',(∃y,w'=plus w0 y)→Q .normal a' w') l a):(Code.region id l.toArray true).wp P Q a (plus w0 x) :=
 wp_region_quiet (C:=fun w'=>∃y,w'=plus w0 y) hm hB ⟨⟨x.blocks,x.draws+1⟩,rfl⟩ (by simpa using h)
theorem WU{id:Nat}{Q:Exit→Act→World→Prop}{a:Act}{w0:World}{x:ZA}{l:List Oper}(n:Nat)(hm:P.follows .mixedOrders=true)(hB:Rj l n=true)(h:wpQuiet P (l.take n).toArray (fun w'=>∃y,w'=plus w0 y) (fun a'=>∀w',(∃y,w'=plus w0 y)→wpList P l.toArray Q (l.drop n) a' w') (l.take n) a):(Code.region id l.toArray true).wp P Q a (plus w0 x) :=
 Nv n (fun w'=>∃y,w'=plus w0 y) hm hB ⟨⟨x.blocks,x.draws+1⟩,rfl⟩ h
theorem ZK(w:World):plus w ⟨#[],w.drawn⟩=w:=by simp[plus]
theorem YO(w:World)(x:ZA)(b o:Nat)(h:b<w.heap.size):(plus w x).cell? ⟨b,o,none⟩=w.cell? ⟨b,o,none⟩:=(Z9 w x).cell (p:=⟨b,o,none⟩) h
theorem TX(w:World)(x:ZA)(b o:Nat)(h:b<w.heap.size):(plus w x).frozen? ⟨b,o,none⟩=w.frozen? ⟨b,o,none⟩:=(Z9 w x).frozen (p:=⟨b,o,none⟩) h
theorem Tu(w:World)(x:ZA):w.heap.size≤(plus w x).heap.size:=(Z9 w x).size
end
section
variable {P:Program}
theorem VS{id:Nat}{Q:Exit→Act→World→Prop}{a:Act}{w0:World}{l:List Oper}(hm:P.follows .mixedOrders=true)(hB:Region.lexB .any l.toArray=true)(h:wpQuiet P l.toArray (fun w'=>∃y,w'=plus w0 y) (fun a'=>∀w',(∃y,w'=plus w0 y)→Q .normal a' w') l a):(Code.region id l.toArray true).wp P Q a w0 :=
 wp_region_quiet (C:=fun w'=>∃y,w'=plus w0 y) hm hB ⟨⟨#[],w0.drawn+1⟩,RM _ _⟩ (by simpa using h)
theorem QA{id:Nat}{Q:Exit→Act→World→Prop}{a:Act}{w0:World}{l:List Oper}(n:Nat)(hm:P.follows .mixedOrders=true)(hB:Rj l n=true)(h:wpQuiet P (l.take n).toArray (fun w'=>∃y,w'=plus w0 y) (fun a'=>∀w',(∃y,w'=plus w0 y)→wpList P l.toArray Q (l.drop n) a' w') (l.take n) a):(Code.region id l.toArray true).wp P Q a w0 :=
 Nv n (fun w'=>∃y,w'=plus w0 y) hm hB ⟨⟨#[],w0.drawn+1⟩,RM _ _⟩ h
theorem Z4(w:World)(c:Array Value)(t:TypeId)(b o:Nat)(h:b=w.heap.size):(w.alloc (.cells c t)).cell? ⟨b,o,none⟩=c[o]?:=by
 subst h;show (match (w.heap.push (Obj.cells c t))[w.heap.size]? with|some (.cells c _ _)=>if (none:Option Nat).isSome then none else c[o]?|_=>none)=_
 simp
theorem XZ(w:World)(x:Obj)(b o:Nat)(h:b<w.heap.size):(w.alloc x).cell? ⟨b,o,none⟩=w.cell? ⟨b,o,none⟩ :=
 ((Zc _ w).alloc (Zp _) x).cell (p:=⟨b,o,none⟩) h
theorem Vm(w:World)(c:Array Value)(t:TypeId)(b o:Nat)(h:b=w.heap.size):(w.alloc (.cells c t)).frozen? ⟨b,o,none⟩=false:=by
 subst h;show (match (w.heap.push (Obj.cells c t))[w.heap.size]? with|some (.cells _ _ (lo,hi))=>decide (lo≤o)&&decide (o<hi)|_=>false)=_
 simp
theorem Uj(w:World)(x:Obj)(b o:Nat)(h:b<w.heap.size):(w.alloc x).frozen? ⟨b,o,none⟩=w.frozen? ⟨b,o,none⟩ :=
 ((Zc _ w).alloc (Zp _) x).frozen (p:=⟨b,o,none⟩) h
theorem Yb{W:World}{b o:Nat}{v:Option Value}(h:b<W.heap.size)(e:W.cell? ⟨b,o,none⟩=v)(y:ZA):(plus W y).cell? ⟨b,o,none⟩=v:=(YO W y b o h).trans e
theorem Sh{W:World}{b:Nat}(h:b<W.heap.size)(e:∀o,W.frozen? ⟨b,o,none⟩=false)(y:ZA)(o:Nat):(plus W y).frozen? ⟨b,o,none⟩=false:=(TX W y b o h).trans (e o)
theorem Vx(w:World)(c:Array Value)(t:TypeId):∃W,W=w.alloc (.cells c t)∧Below w.heap.size w W∧W.heap.size=w.heap.size+1 ∧
  (∀o v,c[o]?=v→∀y,(plus W y).cell? ⟨w.heap.size,o,none⟩=v)∧(∀y o,(plus W y).frozen? ⟨w.heap.size,o,none⟩=false):=by
 have hs:(w.alloc (.cells c t)).heap.size=w.heap.size+1:=by simp
 exact⟨_,rfl,(Zc _ _).alloc (Zp _) _,hs,fun o v e=>Yb (by omega) ((Z4 w c t _ o rfl).trans e),Sh (by omega) fun o=>Vm w c t _ o rfl⟩
theorem Vy(w:World)(c d:Array Value)(t u:TypeId):∃W,W=(w.alloc (.cells c t)).alloc (.cells d u)∧Below w.heap.size w W∧W.heap.size=w.heap.size+1+1 ∧
  (∀o v,c[o]?=v→∀y,(plus W y).cell? ⟨w.heap.size,o,none⟩=v) ∧
  (∀o v,d[o]?=v→∀y,(plus W y).cell? ⟨w.heap.size+1,o,none⟩=v)∧(∀y o,(plus W y).frozen? ⟨w.heap.size,o,none⟩=false)∧(∀y o,(plus W y).frozen? ⟨w.heap.size+1,o,none⟩=false):=by
 have h1:(w.alloc (.cells c t)).heap.size=w.heap.size+1:=by simp
 have hs:((w.alloc (.cells c t)).alloc (.cells d u)).heap.size=w.heap.size+1+1:=by simp
 exact⟨_,rfl,((Zc _ _).alloc (Zp _) _).alloc (by omega) _,hs,
  fun o v e=>Yb (by omega) ((XZ _ _ _ o (by omega)).trans ((Z4 w c t _ o rfl).trans e)),
  fun o v e=>Yb (by omega) ((Z4 _ d u _ o h1.symm).trans e),
  Sh (by omega) fun o=>(Uj _ _ _ o (by omega)).trans (Vm w c t _ o rfl),
  Sh (by omega) fun o=>Vm _ d u _ o h1.symm⟩
theorem WL(w:World)(c d f:Array Value)(t u s:TypeId):∃W,W=((w.alloc (.cells c t)).alloc (.cells d u)).alloc (.cells f s)∧Below w.heap.size w W∧W.heap.size=w.heap.size+1+1+1 ∧
  (∀o v,c[o]?=v→∀y,(plus W y).cell? ⟨w.heap.size,o,none⟩=v) ∧
  (∀o v,d[o]?=v→∀y,(plus W y).cell? ⟨w.heap.size+1,o,none⟩=v) ∧
  (∀o v,f[o]?=v→∀y,(plus W y).cell? ⟨w.heap.size+1+1,o,none⟩=v) ∧
  (∀y o,(plus W y).frozen? ⟨w.heap.size,o,none⟩=false)∧(∀y o,(plus W y).frozen? ⟨w.heap.size+1,o,none⟩=false)∧(∀y o,(plus W y).frozen? ⟨w.heap.size+1+1,o,none⟩=false):=by
 have h1:(w.alloc (.cells c t)).heap.size=w.heap.size+1:=by simp
 have h2:((w.alloc (.cells c t)).alloc (.cells d u)).heap.size=w.heap.size+1+1:=by simp
 have hs:(((w.alloc (.cells c t)).alloc (.cells d u)).alloc (.cells f s)).heap.size=w.heap.size+1+1+1:=by simp
 exact⟨_,rfl,(((Zc _ _).alloc (Zp _) _).alloc (by omega) _).alloc (by omega) _,hs,
  fun o v e=>Yb (by omega) ((XZ _ _ _ o (by omega)).trans ((XZ _ _ _ o (by omega)).trans ((Z4 w c t _ o rfl).trans e))),
  fun o v e=>Yb (by omega) ((XZ _ _ _ o (by omega)).trans ((Z4 _ d u _ o h1.symm).trans e)),
  fun o v e=>Yb (by omega) ((Z4 _ f s _ o h2.symm).trans e),
  Sh (by omega) fun o=>(Uj _ _ _ o (by omega)).trans ((Uj _ _ _ o (by omega)).trans (Vm w c t _ o rfl)),
  Sh (by omega) fun o=>(Uj _ _ _ o (by omega)).trans (Vm _ d u _ o h1.symm),
  Sh (by omega) fun o=>Vm _ f s _ o h2.symm⟩
theorem Us{w W:World}{y:ZA}{b:Nat}(hB:Below w.heap.size w W)(hb:w.heap.size≤b)(u v:Value):∃x,((plus W y).setCell ⟨b,0,none⟩ u).setCell ⟨b,1,none⟩ v=plus w x :=
 ZS (((hB.trans ((Z9 W y).mono hB.size)).setCell hb _).setCell hb _)
end
end Go.Proofs.YtheaknidbcbneaaGreat

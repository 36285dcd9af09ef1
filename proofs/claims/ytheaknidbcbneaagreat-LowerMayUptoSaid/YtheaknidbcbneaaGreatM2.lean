/-
  WHAT IS PROVED HERE: a part of the proof (made narrower and merged by program; the parts: SA).
-/
import Derived.Deep.Slices
import Derived.Deep.Fields
import Derived.ChangeSame
import Derived.WalkKit
import Derived.Lib.Hide
import Derived.WalkSpells
import Derived.WalkLawsBesides
import Derived.Test.YtheaknidbcbneaaGreatM1
set_option maxRecDepth 100000
set_option maxHeartbeats 8000000
set_option linter.all false
namespace Go.Proofs.YtheaknidbcbneaaGreat
open Go.RowKit Go.Proofs.Tryz
open List renaming getElem?_eq_getElem→Zi,getElem?_eq_some_iff→Zj
open Nat renaming le_refl→Zp,zero_le→Zq
open Go.Proofs.Tryz renaming prog→Zr
open Go.ChangeShapes Go.WideShapes Go.RowKit Go.Deep
def ZG(w:World)(a:Addr)(cs:List Value):Prop:=∀j v,cs[j]?=some v→w.cell? (a.add j)=some v
def Z2{α:Type}(w:World)(C:Nat)(cells:α→List Value)(p:Option Addr)(l:List α):Prop :=
 ∀i x,l[i]?=some x→∃a,p=some a∧ZG w (a.add (i*C)) (cells x)
theorem SZ{w:World}{a:Addr}{v:Value}(h:w.cell? a=some v):a.block<w.heap.size:=by
 by_cases hb:a.block<w.heap.size
 ·exact hb
 ·unfold World.cell? at h
  rw[Array.getElem?_eq_none (by omega)]at h;cases h
theorem ZC{w:World}{a:Addr}{v:Value}(h:w.cell? a=some v)(x:ZA):(plus w x).cell? a=some v :=
 ((Z9 w x).cell (p:=a) (SZ h)).trans h
theorem ZG.plus{w:World}{a:Addr}{cs:List Value}(h:ZG w a cs)(x:ZA):ZG (plus w x) a cs:=fun j v hj=>ZC (h j v hj) x
theorem Z2.plus{α:Type}{w:World}{C:Nat}{cells:α→List Value}{p:Option Addr}{l:List α}(h:Z2 w C cells p l)(x:ZA):Z2 (plus w x) C cells p l:=fun i y hi=>by
 obtain⟨a,ha,hc⟩:=h i y hi;exact⟨a,ha,hc.plus x⟩
theorem QU{H:Type}{α β:Type}(size:α→Nat)(f:β→DataW H):∀(l:List α) (ys:List β),l.length=ys.length→(∀(i:Nat) (x:α) (y:β),l[i]?=some x→ys[i]?=some y→size x≤Rows.uptoBulk (f y))→(l.map size).sum≤Rows.uptoBulkAll (ys.map f)
 | [],[],_,_=>by simp[Rows.uptoBulkAll]
 | [],_ :: _,h,_=>by simp at h
 | _ :: _,[],h,_=>by simp at h
 | x :: l,y :: ys,h,hs=>by
  have h0:=hs 0 x y rfl rfl;have h1:=QU size f l ys (by simpa using h) fun i x' y' e e'=>hs (i+1) x' y' (by simpa using e) (by simpa using e');simp only[List.map_cons,List.sum_cons,Rows.uptoBulkAll];omega
section
variable {H:Type} {enc:TypeId × Value→H} {P:Program} {w:World} {base:Nat} {spare:Nat→Bool} {ZN:Bool}
def Wj(enc:TypeId × Value→H)(P:Program)(w:World)(base:Nat)(spare:Nat→Bool)(ZN:Bool)(fuel:Nat)(t:TypeId){α:Type}(cells:α→List Value)(In:α→Prop)(size:α→Nat):Prop :=
 ∀cs x,DataW.trod enc P w base spare ZN fuel t cs=some x→∃e:α,cs=cells e∧In e∧size e≤Rows.uptoBulk x.1
theorem I6{t e:TypeId}{C fuel:Nat}{α:Type}{cells:α→List Value}{In:α→Prop}{size:α→Nat}{cs:List Value}{x:DataW H × List MemPlace}(ht:P.underlying t=some (.slice e))(hC:P.cellsOf e=C)(ho:∀n,n<fuel→Wj enc P w base spare ZN n e cells In size)(h:DataW.trod enc P w base spare ZN fuel t cs=some x) :
  ∃(p:Option Addr) (cap:Nat) (l:List α),cs=[.slice p l.length cap]∧l.length≤cap∧cap≤maxLen∧Z2 w C cells p l∧(∀y∈l,In y)∧(l.map size).sum+1≤Rows.uptoBulk x.1:=by
 subst hC;rcases DataW.trod_slice ht h with⟨rfl,rfl⟩|⟨a,len,cap,elems,rest,n,rfl,rfl,rfl,hb,hl,hm,YA,Vp,_,_⟩
 ·exact⟨none,0,[],rfl,Zp _,Zq _,fun i x hi=>by simp at hi,fun y hy=>by simp at hy,by simp[Rows.uptoBulk]⟩
 ·have key:∀i,i<len→∃y:α,∃z,elems[i]?=some z∧ZG w (a.add (i*P.cellsOf e)) (cells y)∧In y∧size y≤Rows.uptoBulk z.1:=by
   intro i hi;have hz:elems[i]?=some (elems[i]'(by omega)):=Zi (by omega);have:=Vp i hi;rw[hz]at this;obtain⟨cs',h1,h2⟩:=Option.bind_eq_some_iff.1 this;obtain⟨y,hy,ZQ,hs⟩:=ho n (Nat.lt_succ_self n) cs' _ h2;obtain⟨_,Yr,VH⟩:=World.cells?_some h1;refine⟨y,_,hz,fun j v hj=>?_,ZQ,hs⟩;rw[←hy]at hj;have hjl:j<cs'.length:=(Zj.1 hj).1;rw[VH j (by omega),hj]
  clear Vp h ho;have:∃l:List α,l.length=len∧∀i y,l[i]?=some y→∃z,elems[i]?=some z∧ZG w (a.add (i*P.cellsOf e)) (cells y)∧In y∧size y≤Rows.uptoBulk z.1:=by
   by_cases h0:len=0
   ·exact⟨[],by simp[h0],fun i y hi=>by simp at hi⟩
   ·obtain⟨y0,_⟩:=key 0 (by omega)
    haveI:Inhabited α:=⟨y0⟩;obtain⟨f,hf⟩:=choose_lt key;refine⟨(List.range len).map f,by simp,fun i y hi=>?_⟩;simp only[List.getElem?_map]at hi;by_cases hil:i<len
    ·rw[List.getElem?_range hil]at hi
     simp only[Option.map_some,Option.some.injEq]at hi;subst hi;exact hf i hil
    ·rw[List.getElem?_eq_none (by simpa using hil)]at hi
     simp at hi
  obtain⟨l,hll,ZX⟩:=this;refine⟨some a,cap,l,by rw[hll],by omega,hm,fun i y hi=>?_,fun y hy=>?_,?_⟩
  ·obtain⟨z,_,h2,_⟩:=ZX i y hi
   exact⟨a,rfl,h2⟩
  ·obtain⟨i,hi⟩:=List.mem_iff_getElem?.1 hy
   obtain⟨z,_,_,h3,_⟩:=ZX i y hi;exact h3
  ·have:=QU (H:=H) size (fun z:DataW H × List MemPlace=>z.1) l elems (by omega) fun i y z hy hz=>by
    obtain⟨z',e1,_,_,h4⟩:=ZX i y hy;rw[hz]at e1;obtain rfl:=Option.some.inj e1;exact h4
   show (l.map size).sum+1≤Rows.uptoBulkAll (elems.map (·.1))+Rows.uptoBulkAll (rest.map (·.1))+1
   omega
end
structure Lt where
 w:Int
 h:Int
 l:Int
def Lt.cells(t:Lt):List Value:=[.int .i64 t.w,.int .u64 t.h,.int .u64 t.l]
structure Lt.Ok (t:Lt):Prop where
 w:(Lit.int .i64 t.w).wf=true
 h:(Lit.int .u64 t.h).wf=true
 l:(Lit.int .u64 t.l).wf=true
inductive Ex where
 | mk (op:Int) (lit:Lt) (head name:ByteArray) (hi lo:Int) (p:Option Addr) (cap:Nat) (args:List Ex)
def Ex.op:Ex→Int|.mk op _ _ _ _ _ _ _ _=>op
def Ex.lit:Ex→Lt|.mk _ t _ _ _ _ _ _ _=>t
def Ex.head:Ex→ByteArray|.mk _ _ s _ _ _ _ _ _=>s
def Ex.name:Ex→ByteArray|.mk _ _ _ s _ _ _ _ _=>s
def Ex.hi:Ex→Int|.mk _ _ _ _ h _ _ _ _=>h
def Ex.lo:Ex→Int|.mk _ _ _ _ _ l _ _ _=>l
def Ex.p:Ex→Option Addr|.mk _ _ _ _ _ _ p _ _=>p
def Ex.cap:Ex→Nat|.mk _ _ _ _ _ _ _ c _=>c
def Ex.args:Ex→List Ex|.mk _ _ _ _ _ _ _ _ l=>l
def Ex.cells(e:Ex):List Value:=[.int .u8 e.op,.int .i64 e.lit.w,.int .u64 e.lit.h,.int .u64 e.lit.l,.string e.head,.string e.name,.int .i64 e.hi,.int .i64 e.lo,.slice e.p e.args.length e.cap]
def Ex.val(e:Ex):Value:=.agg e.cells.toArray
theorem Ex.ind{Q:Ex→Prop}(h:∀e:Ex,(∀x∈e.args,Q x)→Q e):∀e,Q e:=fun e =>
 Ex.rec (motive_1:=Q) (motive_2:=fun l=>∀x∈l,Q x) (fun _ _ _ _ _ _ _ _ _ ih=>h _ ih) (fun x hx=>by simp at hx) (fun _ _ h1 h2 x hx=>by
  rcases List.mem_cons.1 hx with rfl|hx
  ·exact h1
  ·exact h2 x hx) e
mutual
/-- How many nodes and bytes it has. -/
def Ex.wt:Ex→Nat
 | .mk _ _ hd nm _ _ _ _ args=>1+hd.size+nm.size+Ex.wts args
def Ex.wts:List Ex→Nat
 | []=>0
 | e :: l=>e.wt+Ex.wts l
end
theorem Ex.wts_sum:∀l:List Ex,Ex.wts l=(l.map Ex.wt).sum
 | []=>by simp[Ex.wts]
 | e :: l=>by simp[Ex.wts,Ex.wts_sum l]
theorem Ex.wt_eq(e:Ex):e.wt=1+e.head.size+e.name.size+(e.args.map Ex.wt).sum:=by
 cases e;simp[Ex.wt,Ex.wts_sum,Ex.head,Ex.name,Ex.args]
inductive Ex.In (w:World):Ex→Prop where
 | mk (e:Ex) (op:(Lit.int .u8 e.op).wf=true) (lit:e.lit.Ok) (hi:(Lit.int .i64 e.hi).wf=true) (lo:(Lit.int .i64 e.lo).wf=true) (hd:e.head.size≤maxLen) (nm:e.name.size≤maxLen)
   (len:e.args.length≤e.cap) (cap:e.cap≤maxLen) (row:Z2 w 9 Ex.cells e.p e.args) (kids:∀x∈e.args,Ex.In w x):Ex.In w e
theorem Ex.In.plus{w:World}(x:ZA):∀{e:Ex},e.In w→e.In (plus w x):=fun {e} h=>by
 induction h with
 | mk e op lit hi lo hd nm len cap row _ ih=>exact .mk e op lit hi lo hd nm len cap (row.plus x) ih
section
variable {H:Type} {enc:TypeId × Value→H} {w:World} {base:Nat} {spare:Nat→Bool} {ZN:Bool}
theorem cI:Zr.cellsOf 3=1:=by kernel_rfl
theorem RH:Zr.cellsOf 5=1:=by kernel_rfl
theorem Q6:Zr.cellsOf 58=1:=by kernel_rfl
theorem cS:Zr.cellsOf 9=1:=by kernel_rfl
end
theorem Rw(n:Int)(h:-9223372036854775808≤n∧n≤9223372036854775807):wrap64 n=n:=by unfold wrap64;omega
theorem Yo(k n:Nat)(h:k<n)(hn:n≤1048576):wrap64 ((k:Int)+1)=((k+1:Nat):Int):=by
 rw[Rw _ (by omega)];simp
theorem YF(k n:Nat)(h:k<n)(ha:wrap64 ((k:Int)+1)=((k+1:Nat):Int)):n-(intOf (.int .i64 (wrap64 ((k:Int)+1)))).toNat<n-(intOf (.int .i64 (k:Int))).toNat:=by
 rw[ha];simp only[intOf,Int.toNat_natCast];omega
theorem ZG.c0{w:World}{a:Addr}{cs:List Value}(h:ZG w a cs)(v:Value)(hj:cs[0]?=some v):w.cell? a=some v:=h 0 v hj
theorem ZG.cs{w:World}{a:Addr}{cs:List Value}(h:ZG w a cs)(j:Nat)(v:Value)(hj:cs[j+1]?=some v):w.cell? ⟨a.block,a.off+(j+1),none⟩=some v:=h (j+1) v hj
theorem G6{α:Type}(f:α→Nat)(l:List α)(k:Nat)(x:α)(h:l[k]?=some x):((l.take (k+1)).map f).sum=((l.take k).map f).sum+f x:=by
 rw[List.take_add_one,h];simp
theorem G5{α:Type}(f:α→Nat)(l:List α)(k:Nat):((l.take k).map f).sum≤(l.map f).sum:=by
 have:(l.map f).sum=((l.take k).map f).sum+((l.drop k).map f).sum:=by
  rw[←List.sum_append,←List.map_append,List.take_append_drop]
 omega
theorem Yw{α:Type}(f:α→Nat)(hf:∀x,1≤f x):∀l:List α,l.length≤(l.map f).sum
 | []=>by simp
 | x :: l=>by have:=Yw f hf l;have:=hf x;simp;omega
theorem Ex.wt_pos(e:Ex):1≤e.wt:=by rw[Ex.wt_eq];omega
theorem We{α:Type}(f:α→Nat)(l:List α)(x:α)(h:x∈l):f x≤(l.map f).sum:=by
 obtain⟨k,hk⟩:=List.mem_iff_getElem?.1 h;have:=G6 f l k x hk;have:=G5 f l (k+1);omega
end Go.Proofs.YtheaknidbcbneaaGreat
namespace Go.Proofs.YtheaknidbcbneaaGreat
open Go.RowKit Go.Proofs.Tryz
open List renaming getElem?_eq_getElem→Zi,getElem?_eq_some_iff→Zj
open Nat renaming le_refl→Zp,zero_le→Zq
open Go.Proofs.Tryz renaming prog→Zr
open Go.ChangeShapes Go.WideShapes Go.RowKit Go.Deep
structure Sl (α:Type) where
 p:Option Addr
 cap:Nat
 l:List α
def Sl.v{α:Type}(s:Sl α):Value:=.slice s.p s.l.length s.cap
structure Sl.In {α:Type} (w:World) (C:Nat) (cells:α→List Value) (K:α→Prop) (s:Sl α):Prop where
 len:s.l.length≤s.cap
 cap:s.cap≤maxLen
 row:Z2 w C cells s.p s.l
 kids:∀y∈s.l,K y
theorem Sl.In.plus{α:Type}{w:World}{C:Nat}{cells:α→List Value}{In In':α→Prop}{s:Sl α}(h:s.In w C cells In)(hi:∀y,In y→In' y)(x:ZA):s.In (plus w x) C cells In' :=
 ⟨h.len,h.cap,h.row.plus x,fun y hy=>hi y (h.kids y hy)⟩
def Sl.size{α:Type}(f:α→Nat)(s:Sl α):Nat:=(s.l.map f).sum
def WS(s:ByteArray):List Value:=[.string s]
def WT(s:ByteArray):Prop:=s.size≤maxLen
def XH(s:ByteArray):Nat:=s.size+1
section
variable {H:Type} {enc:TypeId × Value→H} {w:World} {base:Nat} {spare:Nat→Bool} {ZN:Bool}
theorem Xj{P:Program}{t e:TypeId}{C fuel:Nat}{α:Type}{cells:α→List Value}{In:α→Prop}{size:α→Nat}{cs:List Value}{x:DataW H × List MemPlace}(ht:P.underlying t=some (.slice e))(hC:P.cellsOf e=C)(ho:∀n,n<fuel→Wj enc P w base spare ZN n e cells In size)(h:DataW.trod enc P w base spare ZN fuel t cs=some x) :
  ∃s:Sl α,cs=[s.v]∧s.In w C cells In∧s.size size+1≤Rows.uptoBulk x.1:=by
 obtain⟨p,cap,l,h1,h2,h3,h4,h5,h6⟩:=I6 ht hC ho h;exact⟨⟨p,cap,l⟩,h1,⟨h2,h3,h4,h5⟩,h6⟩
theorem SL{fuel:Nat}:Wj enc Zr w base spare ZN fuel 9 WS WT XH:=by
 intro cs x h;obtain⟨s,e,q,hs⟩:=DataW.trod_string Tryz.underlying9 h;exact⟨s,e,hs,by rw[q];simp[Rows.uptoBulk,XH]⟩
end
structure Fd where
 name:ByteArray
 w:Int
def Fd.cells(x:Fd):List Value:=[.string x.name,.int .i64 x.w]
structure Fd.In (w:World) (x:Fd):Prop where
 name:x.name.size≤maxLen
 w:(Lit.int .i64 x.w).wf=true
def Fd.sz(x:Fd):Nat:=1+x.name.size
theorem Fd.In.plus{w:World}{s:Fd}(h:s.In w)(_:ZA):s.In (plus w ‹ZA›):=⟨h.name,h.w⟩
section
variable {H:Type} {enc:TypeId × Value→H} {w:World} {base:Nat} {spare:Nat→Bool} {ZN:Bool}
end
structure Hr where
 name:ByteArray
 fields:Sl Fd
def Hr.cells(x:Hr):List Value:=[.string x.name,x.fields.v]
structure Hr.In (w:World) (x:Hr):Prop where
 name:x.name.size≤maxLen
 fields:x.fields.In w 2 Fd.cells (Fd.In w)
def Hr.sz(x:Hr):Nat:=1+x.name.size+x.fields.size Fd.sz
theorem Hr.In.plus{w:World}{s:Hr}(h:s.In w)(x:ZA):s.In (plus w x):=⟨h.name,h.fields.plus (fun _ a=>a.plus x) x⟩
section
variable {H:Type} {enc:TypeId × Value→H} {w:World} {base:Nat} {spare:Nat→Bool} {ZN:Bool}
end
structure Se where
 kind:Int
 v:Lt
 m:Lt
def Se.cells(x:Se):List Value:=[.int .u8 x.kind,.int .i64 x.v.w,.int .u64 x.v.h,.int .u64 x.v.l,.int .i64 x.m.w,.int .u64 x.m.h,.int .u64 x.m.l]
structure Se.In (w:World) (x:Se):Prop where
 kind:(Lit.int .u8 x.kind).wf=true
 v:Lt.Ok x.v
 m:Lt.Ok x.m
def Se.sz(_:Se):Nat:=1
theorem Se.In.plus{w:World}{s:Se}(h:s.In w)(_:ZA):s.In (plus w ‹ZA›):=⟨h.kind,h.v,h.m⟩
section
variable {H:Type} {enc:TypeId × Value→H} {w:World} {base:Nat} {spare:Nat→Bool} {ZN:Bool}
end
structure Ca where
 dflt:Bool
 sets:Sl Se
 tX9:ByteArray
def Ca.cells(x:Ca):List Value:=[.bool x.dflt,x.sets.v,.string x.tX9]
structure Ca.In (w:World) (x:Ca):Prop where
 dflt:True
 sets:x.sets.In w 7 Se.cells (Se.In w)
 tX9:x.tX9.size≤maxLen
def Ca.sz(x:Ca):Nat:=1+x.sets.size Se.sz+x.tX9.size
theorem Ca.In.plus{w:World}{s:Ca}(h:s.In w)(x:ZA):s.In (plus w x):=⟨h.dflt,h.sets.plus (fun _ a=>a.plus x) x,h.tX9⟩
section
variable {H:Type} {enc:TypeId × Value→H} {w:World} {base:Nat} {spare:Nat→Bool} {ZN:Bool}
end
structure Sa where
 name:ByteArray
 takes:Sl ByteArray
 tX9:ByteArray
 keys:Sl Ex
 cases:Sl Ca
def Sa.cells(x:Sa):List Value:=[.string x.name,x.takes.v,.string x.tX9,x.keys.v,x.cases.v]
structure Sa.In (w:World) (x:Sa):Prop where
 name:x.name.size≤maxLen
 takes:x.takes.In w 1 WS WT
 tX9:x.tX9.size≤maxLen
 keys:x.keys.In w 9 Ex.cells (Ex.In w)
 cases:x.cases.In w 3 Ca.cells (Ca.In w)
def Sa.sz(x:Sa):Nat:=1+x.name.size+x.takes.size XH+x.tX9.size+x.keys.size Ex.wt+x.cases.size Ca.sz
theorem Sa.In.plus{w:World}{s:Sa}(h:s.In w)(x:ZA):s.In (plus w x):=⟨h.name,h.takes.plus (fun _ a=>a) x,h.tX9,h.keys.plus (fun _ a=>a.plus x) x,h.cases.plus (fun _ a=>a.plus x) x⟩
section
variable {H:Type} {enc:TypeId × Value→H} {w:World} {base:Nat} {spare:Nat→Bool} {ZN:Bool}
end
inductive St where
 | mk (kind:Int) (head name:ByteArray) (e:Ex) (p:Option Addr) (cap:Nat) (thn:List St) (q:Option Addr) (cbp:Nat) (els:List St)
def St.kind:St→Int|.mk k _ _ _ _ _ _ _ _ _=>k
def St.head:St→ByteArray|.mk _ s _ _ _ _ _ _ _ _=>s
def St.name:St→ByteArray|.mk _ _ s _ _ _ _ _ _ _=>s
def St.e:St→Ex|.mk _ _ _ e _ _ _ _ _ _=>e
def St.p:St→Option Addr|.mk _ _ _ _ p _ _ _ _ _=>p
def St.cap:St→Nat|.mk _ _ _ _ _ c _ _ _ _=>c
def St.thn:St→List St|.mk _ _ _ _ _ _ l _ _ _=>l
def St.q:St→Option Addr|.mk _ _ _ _ _ _ _ q _ _=>q
def St.cbp:St→Nat|.mk _ _ _ _ _ _ _ _ c _=>c
def St.els:St→List St|.mk _ _ _ _ _ _ _ _ _ l=>l
def St.cells(s:St):List Value:=[.int .u8 s.kind,.string s.head,.string s.name,.int .u8 s.e.op,.int .i64 s.e.lit.w,.int .u64 s.e.lit.h,.int .u64 s.e.lit.l,.string s.e.head,.string s.e.name,.int .i64 s.e.hi,.int .i64 s.e.lo,.slice s.e.p s.e.args.length s.e.cap,.slice s.p s.thn.length s.cap,.slice s.q s.els.length s.cbp]
theorem St.ind{Q:St→Prop}(h:∀s:St,(∀x∈s.thn,Q x)→(∀x∈s.els,Q x)→Q s):∀s,Q s:=fun s =>
 St.rec (motive_1:=Q) (motive_2:=fun l=>∀x∈l,Q x) (fun _ _ _ _ _ _ _ _ _ _ i1 i2=>h _ i1 i2) (fun x hx=>by simp at hx) (fun _ _ h1 h2 x hx=>by
  rcases List.mem_cons.1 hx with rfl|hx
  ·exact h1
  ·exact h2 x hx) s
mutual
/-- How many nodes and bytes it has. -/
def St.sz:St→Nat
 | .mk _ hd nm e _ _ thn _ _ els=>1+hd.size+nm.size+e.wt+St.szs thn+St.szs els
def St.szs:List St→Nat
 | []=>0
 | e :: l=>e.sz+St.szs l
end
theorem St.szs_sum:∀l:List St,St.szs l=(l.map St.sz).sum
 | []=>by simp[St.szs]
 | e :: l=>by simp[St.szs,St.szs_sum l]
theorem St.sz_eq(s:St):s.sz=1+s.head.size+s.name.size+s.e.wt+(s.thn.map St.sz).sum+(s.els.map St.sz).sum:=by
 cases s;simp[St.sz,St.szs_sum,St.head,St.name,St.e,St.thn,St.els]
inductive St.In (w:World):St→Prop where
 | mk (s:St) (kind:(Lit.int .u8 s.kind).wf=true) (hd:s.head.size≤maxLen) (nm:s.name.size≤maxLen) (e:s.e.In w)
   (len:s.thn.length≤s.cap) (cap:s.cap≤maxLen) (row:Z2 w 14 St.cells s.p s.thn) (kids:∀x∈s.thn,St.In w x)
   (len2:s.els.length≤s.cbp) (cap2:s.cbp≤maxLen) (row2:Z2 w 14 St.cells s.q s.els) (kids2:∀x∈s.els,St.In w x):St.In w s
theorem St.In.plus{w:World}{s:St}(h:s.In w)(x:ZA):s.In (plus w x):=by
 induction h with
 | mk s k hd nm e l c r _ l2 c2 r2 _ ih ih2=>exact .mk s k hd nm (e.plus x) l c (r.plus x) ih l2 c2 (r2.plus x) ih2
section
variable {H:Type} {enc:TypeId × Value→H} {w:World} {base:Nat} {spare:Nat→Bool} {ZN:Bool}
end
structure Ac where
 name:ByteArray
 params:Sl Fd
 body:Sl St
def Ac.cells(x:Ac):List Value:=[.string x.name,x.params.v,x.body.v]
structure Ac.In (w:World) (x:Ac):Prop where
 name:x.name.size≤maxLen
 params:x.params.In w 2 Fd.cells (Fd.In w)
 body:x.body.In w 14 St.cells (St.In w)
def Ac.sz(x:Ac):Nat:=1+x.name.size+x.params.size Fd.sz+x.body.size St.sz
theorem Ac.In.plus{w:World}{s:Ac}(h:s.In w)(x:ZA):s.In (plus w x):=⟨h.name,h.params.plus (fun _ a=>a.plus x) x,h.body.plus (fun _ a=>a.plus x) x⟩
section
variable {H:Type} {enc:TypeId × Value→H} {w:World} {base:Nat} {spare:Nat→Bool} {ZN:Bool}
end
structure Ke where
 e:Ex
 kind:Int
def Ke.cells(x:Ke):List Value:=[.int .u8 x.e.op,.int .i64 x.e.lit.w,.int .u64 x.e.lit.h,.int .u64 x.e.lit.l,.string x.e.head,.string x.e.name,.int .i64 x.e.hi,.int .i64 x.e.lo,.slice x.e.p x.e.args.length x.e.cap,.int .u8 x.kind]
structure Ke.In (w:World) (x:Ke):Prop where
 e:(Ex.In w) x.e
 kind:(Lit.int .u8 x.kind).wf=true
def Ke.sz(x:Ke):Nat:=1+Ex.wt x.e
theorem Ke.In.plus{w:World}{s:Ke}(h:s.In w)(x:ZA):s.In (plus w x):=⟨h.e.plus x,h.kind⟩
section
variable {H:Type} {enc:TypeId × Value→H} {w:World} {base:Nat} {spare:Nat→Bool} {ZN:Bool}
end
structure Cl where
 name:ByteArray
 args:Sl Lt
def Cl.cells(x:Cl):List Value:=[.string x.name,x.args.v]
structure Cl.In (w:World) (x:Cl):Prop where
 name:x.name.size≤maxLen
 args:x.args.In w 3 Lt.cells Lt.Ok
def Cl.sz(x:Cl):Nat:=x.name.size+x.args.size (fun _=>1)
theorem Cl.In.plus{w:World}{s:Cl}(h:s.In w)(x:ZA):s.In (plus w x):=⟨h.name,h.args.plus (fun _ a=>a) x⟩
section
variable {H:Type} {enc:TypeId × Value→H} {w:World} {base:Nat} {spare:Nat→Bool} {ZN:Bool}
end
structure Ta where
 name:ByteArray
 keys:Sl Ke
 actions:Sl ByteArray
 dflt:Cl
def Ta.cells(x:Ta):List Value:=[.string x.name,x.keys.v,x.actions.v,.string x.dflt.name,x.dflt.args.v]
structure Ta.In (w:World) (x:Ta):Prop where
 name:x.name.size≤maxLen
 keys:x.keys.In w 10 Ke.cells (Ke.In w)
 actions:x.actions.In w 1 WS WT
 dflt:(Cl.In w) x.dflt
def Ta.sz(x:Ta):Nat:=1+x.name.size+x.keys.size Ke.sz+x.actions.size XH+Cl.sz x.dflt
theorem Ta.In.plus{w:World}{s:Ta}(h:s.In w)(x:ZA):s.In (plus w x):=⟨h.name,h.keys.plus (fun _ a=>a.plus x) x,h.actions.plus (fun _ a=>a) x,h.dflt.plus x⟩
section
variable {H:Type} {enc:TypeId × Value→H} {w:World} {base:Nat} {spare:Nat→Bool} {ZN:Bool}
end
structure Pr where
 headers:Sl Hr
 metas:Sl Fd
 states:Sl Sa
 actions:Sl Ac
 tables:Sl Ta
 control:Sl St
 emit:Sl ByteArray
def Pr.cells(x:Pr):List Value:=[x.headers.v,x.metas.v,x.states.v,x.actions.v,x.tables.v,x.control.v,x.emit.v]
structure Pr.In (w:World) (x:Pr):Prop where
 headers:x.headers.In w 2 Hr.cells (Hr.In w)
 metas:x.metas.In w 2 Fd.cells (Fd.In w)
 states:x.states.In w 5 Sa.cells (Sa.In w)
 actions:x.actions.In w 3 Ac.cells (Ac.In w)
 tables:x.tables.In w 5 Ta.cells (Ta.In w)
 control:x.control.In w 14 St.cells (St.In w)
 emit:x.emit.In w 1 WS WT
def Pr.sz(x:Pr):Nat:=x.headers.size Hr.sz+x.metas.size Fd.sz+x.states.size Sa.sz+x.actions.size Ac.sz+x.tables.size Ta.sz+x.control.size St.sz+x.emit.size XH
theorem Pr.In.plus{w:World}{s:Pr}(h:s.In w)(x:ZA):s.In (plus w x):=⟨h.headers.plus (fun _ a=>a.plus x) x,h.metas.plus (fun _ a=>a.plus x) x,h.states.plus (fun _ a=>a.plus x) x,h.actions.plus (fun _ a=>a.plus x) x,h.tables.plus (fun _ a=>a.plus x) x,h.control.plus (fun _ a=>a.plus x) x,h.emit.plus (fun _ a=>a) x⟩
section
variable {H:Type} {enc:TypeId × Value→H} {w:World} {base:Nat} {spare:Nat→Bool} {ZN:Bool}
end
abbrev Vh(P:Program)(w:World)(f:FuncId)(args:Array Value)(v:Value):Prop:=∀y,Calls P f args (plus w y) fun e w'=>e=.returned v∧∃x,w'=plus w x
theorem G4(s:ByteArray):1≤XH s:=by unfold XH;omega
theorem Fd.sz_pos(s:Fd):1≤s.sz:=by unfold Fd.sz;omega
end Go.Proofs.YtheaknidbcbneaaGreat

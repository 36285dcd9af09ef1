/-
  WHAT IS PROVED HERE: a part of the proof (made narrower and merged by program; the parts: Zr Zs).
-/
import Derived.Test.YtknmeggfokpbjaaGreatM23
import Derived.Test.YtknmeggfokpbjaaGreatM25
set_option maxRecDepth 100000
set_option maxHeartbeats 8000000
set_option linter.all false
namespace Go.Proofs.YtknmeggfokpbjaaGreat
open Z
open Go.RowKit Go.Proofs.Tryz
open List renaming getElem?_eq_some_iff→Zi,length_cons→Zk,mem_append→Zn,mem_of_getElem?→Zo
open Nat renaming zero_add→Zv
open Go.Proofs.Tryz renaming prog→Zx
open Go.RowKit Go.Shelf
def Wm(p:Pr)(kind:Int)(a b:Nat):Int :=
 if kind=1 then (match p.headers.l[a]? with|some x=>(Mo p a x)|none=>0) else
 if kind=2 then (match p.headers.l[a]? with|some x=>(match x.fields.l[b]? with|some y=>(if X5 p (a:Int) y.name=(b:Int) then 0 else 8)|none=>0)|none=>0) else
 if kind=3 then (match p.metas.l[a]? with|some x=>(if Xv p.metas.l x.name=(a:Int) then 0 else 8)|none=>0) else
 if kind=4 then (match p.states.l[a]? with|some x=>(if (W9 p.states.l x.name).1=(a:Int) then 0 else 8)|none=>0) else
 if kind=5 then (match p.states.l[a]? with|some x=>(match x.takes.l[b]? with|some y=>(if YF p.headers.l y=-1 then 7 else 0)|none=>0)|none=>0) else
 if kind=6 then (match p.states.l[a]? with|some x=>(PD p x)|none=>0) else
 if kind=7 then (match p.states.l[a]? with|some x=>(match x.cases.l[b]? with|some y=>(if (W9 p.states.l y.tX9).2 then 0 else 7)|none=>0)|none=>0) else
 if kind=8 then (match p.actions.l[a]? with|some x=>(if XD p.actions.l x.name=(a:Int) then 0 else 8)|none=>0) else
 if kind=9 then (match p.actions.l[a]? with|some x=>(match x.params.l[b]? with|some y=>(if WN p (a:Int) y.name=(b:Int) then 0 else 8)|none=>0)|none=>0) else
 if kind=11 then (match p.tables.l[a]? with|some x=>(if Tp p.tables.l x.name=(a:Int) then 0 else 8)|none=>0) else
 if kind=12 then (match p.tables.l[a]? with|some x=>(match x.keys.l[b]? with|some y=>(if y.e.there (YP p (-1)) then 0 else 7)|none=>0)|none=>0) else
 if kind=13 then (match p.tables.l[a]? with|some x=>(match x.actions.l[b]? with|some y=>(if XD p.actions.l y=-1 then 7 else if XT x.actions.l y=(b:Int) then 0 else 8)|none=>0)|none=>0) else
 if kind=14 then (match p.tables.l[a]? with|some x=>(SU x.actions.l x.dflt.name x.dflt.args.l.length (match p.actions.l[(XD p.actions.l x.dflt.name).toNat]? with|some z=>z.params.l.length|none=>0))|none=>0) else
 if kind=15 then (match p.emit.l[a]? with|some x=>(if YF p.headers.l x=-1 then 7 else if XT p.emit.l x=(a:Int) then 0 else 8)|none=>0) else
 0
def Yu(p:Pr):It→Int
 | .st a s=>PE p a s.kind s.head s.name (if s.e.there (YP p a) then 0 else 7)
 | .num kind a b=>Wm p kind a b
inductive VM (p:Pr) (w:World):It→Prop where
 | header (a:Nat) (x:Hr) (hx:p.headers.l[a]?=some x):VM p w (.num 1 a 0)
 | field (a b:Nat) (x:Hr) (y:Fd) (hx:p.headers.l[a]?=some x) (hy:x.fields.l[b]?=some y):VM p w (.num 2 a b)
 | mta (a:Nat) (x:Fd) (hx:p.metas.l[a]?=some x):VM p w (.num 3 a 0)
 | state (a:Nat) (x:Sa) (hx:p.states.l[a]?=some x):VM p w (.num 4 a 0)
 | take (a b:Nat) (x:Sa) (y:ByteArray) (hx:p.states.l[a]?=some x) (hy:x.takes.l[b]?=some y):VM p w (.num 5 a b)
 | next (a:Nat) (x:Sa) (hx:p.states.l[a]?=some x):VM p w (.num 6 a 0)
 | case_ (a b:Nat) (x:Sa) (y:Ca) (hx:p.states.l[a]?=some x) (hy:x.cases.l[b]?=some y):VM p w (.num 7 a b)
 | action (a:Nat) (x:Ac) (hx:p.actions.l[a]?=some x):VM p w (.num 8 a 0)
 | param (a b:Nat) (x:Ac) (y:Fd) (hx:p.actions.l[a]?=some x) (hy:x.params.l[b]?=some y):VM p w (.num 9 a b)
 | table (a:Nat) (x:Ta) (hx:p.tables.l[a]?=some x):VM p w (.num 11 a 0)
 | key (a b:Nat) (x:Ta) (y:Ke) (hx:p.tables.l[a]?=some x) (hy:x.keys.l[b]?=some y):VM p w (.num 12 a b)
 | listed (a b:Nat) (x:Ta) (y:ByteArray) (hx:p.tables.l[a]?=some x) (hy:x.actions.l[b]?=some y):VM p w (.num 13 a b)
 | dflt (a:Nat) (x:Ta) (hx:p.tables.l[a]?=some x):VM p w (.num 14 a 0)
 | emit (a:Nat) (x:ByteArray) (hx:p.emit.l[a]?=some x):VM p w (.num 15 a 0)
 | stmt (a:Int) (s:St) (hs:s.In w) (hz:s.sz≤1048576):VM p w (.st a s)
theorem WM{α:Type}(f:Nat→α→List It)(z:It):∀(l:List α) (b:Nat),z∈YD f b l→∃i x,l[i]?=some x∧z∈f (b+i) x
 | [],_,h=>by cases h
 | x :: l,b,h=>by
  rcases Zn.1 h with h|h
  ·exact⟨0,x,rfl,h⟩
  ·obtain⟨i,y,hi,hz⟩:=WM f z l (b+1) h
   exact⟨i+1,y,by simpa using hi,by rw[show b+(i+1)=b+1+i by omega];exact hz⟩
theorem UY{kind:Int}{a n:Nat}{z:It}(h:z∈Wu kind a n):∃j,j<n∧z=.num kind a j:=by
 obtain⟨j,hj,e⟩:=List.mem_map.1 h;exact⟨j,List.mem_range.1 hj,e.symm⟩
theorem fi(p:Pr)(w:World)(a:Int):∀s:St,s.In w→s.sz≤1048576→∀z∈s.enc a,VM p w z:=fun s=>St.ind (Q:=fun s=>s.In w→s.sz≤1048576→∀z∈s.enc a,VM p w z) (fun s h1 h2 ZF hz z hm=>by
 have e:=St.sz_eq s;rw[St.enc_eq]at hm;rcases List.mem_cons.1 hm with rfl|hm
 ·exact .stmt a s ZF hz
 rcases Zn.1 hm with hm|hm
 ·rw[St.encs_fl a _ 0]at hm
  obtain⟨i,x,hx,Vx⟩:=WM _ z _ 0 hm;have ZV:=Zo hx;exact h1 x ZV ((St.In.inThn ZF).kids x ZV) (by have:=YW St.sz s.thn x ZV;omega) z Vx
 ·rw[St.encs_fl a _ 0]at hm
  obtain⟨i,x,hx,Vx⟩:=WM _ z _ 0 hm;have ZV:=Zo hx;exact h2 x ZV ((St.In.inEls ZF).kids x ZV) (by have:=YW St.sz s.els x ZV;omega) z Vx) s
theorem ym(p:Pr)(w:World)(a:Int)(L:Sl St)(ZF:L.In w 14 St.cells (St.In w))(hz:L.size St.sz≤1048576):∀z∈St.encs a L.l,VM p w z:=fun z hm=>by
 rw[St.encs_fl a _ 0]at hm;obtain⟨i,x,hx,Vx⟩:=WM _ z _ 0 hm;have ZV:=Zo hx;exact fi p w a x (ZF.kids x ZV) (by have:=YW St.sz L.l x ZV;unfold Sl.size at hz;omega) z Vx
theorem Oe{α:Type}{l:List α}{j:Nat}(h:j<l.length):∃y,l[j]?=some y:=⟨l[j],List.getElem?_eq_getElem h⟩
theorem PZ(p:Pr)(w:World)(ZF:p.In w)(hz:p.sz≤1048576):∀z∈Yh p,VM p w z:=by
 intro z hm;unfold Pr.sz at hz;unfold Yh at hm;rcases Zn.1 hm with hm|hm
 ·obtain⟨i,x,hx,hm⟩:=WM _ z _ 0 hm
  rw[Zv]at hm;rcases List.mem_cons.1 hm with rfl|hm
  ·exact .header i x hx
  ·obtain⟨j,hj,rfl⟩:=UY hm
   obtain⟨y,hy⟩:=Oe hj;exact .field i j x y hx hy
 rcases Zn.1 hm with hm|hm
 ·obtain⟨i,x,hx,hm⟩:=WM _ z _ 0 hm
  rw[Zv]at hm;obtain rfl:=List.mem_singleton.1 hm;exact .mta i x hx
 rcases Zn.1 hm with hm|hm
 ·obtain⟨i,x,hx,hm⟩:=WM _ z _ 0 hm
  rw[Zv]at hm;rcases List.mem_cons.1 hm with rfl|hm
  ·exact .state i x hx
  rcases Zn.1 hm with hm|hm
  ·obtain⟨j,hj,rfl⟩:=UY hm
   obtain⟨y,hy⟩:=Oe hj;exact .take i j x y hx hy
  rcases List.mem_cons.1 hm with rfl|hm
  ·exact .next i x hx
  ·obtain⟨j,hj,rfl⟩:=UY hm
   obtain⟨y,hy⟩:=Oe hj;exact .case_ i j x y hx hy
 rcases Zn.1 hm with hm|hm
 ·obtain⟨i,x,hx,hm⟩:=WM _ z _ 0 hm
  rw[Zv]at hm;have ZV:=Zo hx;rcases List.mem_cons.1 hm with rfl|hm
  ·exact .action i x hx
  rcases Zn.1 hm with hm|hm
  ·obtain⟨j,hj,rfl⟩:=UY hm
   obtain⟨y,hy⟩:=Oe hj;exact .param i j x y hx hy
  ·exact ym p w _ x.body (ZF.actions.kids x ZV).body (by have:=YW Ac.sz p.actions.l x ZV;unfold Ac.sz Sl.size at *;omega) z hm
 rcases Zn.1 hm with hm|hm
 ·obtain⟨i,x,hx,hm⟩:=WM _ z _ 0 hm
  rw[Zv]at hm;rcases List.mem_cons.1 hm with rfl|hm
  ·exact .table i x hx
  rcases Zn.1 hm with hm|hm
  ·obtain⟨j,hj,rfl⟩:=UY hm
   obtain⟨y,hy⟩:=Oe hj;exact .key i j x y hx hy
  rcases Zn.1 hm with hm|hm
  ·obtain⟨j,hj,rfl⟩:=UY hm
   obtain⟨y,hy⟩:=Oe hj;exact .listed i j x y hx hy
  ·obtain rfl:=List.mem_singleton.1 hm
   exact .dflt i x hx
 rcases Zn.1 hm with hm|hm
 ·exact ym p w _ p.control ZF.control asQ z hm
 ·obtain⟨i,x,hx,hm⟩:=WM _ z _ 0 hm
  rw[Zv]at hm;obtain rfl:=List.mem_singleton.1 hm;exact .emit i x hx
theorem Kt{l:List Ac}{s:ByteArray}(h:XD l s≠-1):∃(k:Nat) (x:Ac),XD l s=(k:Int)∧l[k]?=some x:=by
 have q:=H7 (fun x:Ac=>x.name.toList==s.toList) l 0;have e:XD l s=YL (fun x:Ac=>x.name.toList==s.toList) l 0:=rfl;rw[←e]at q;rcases q with q|⟨q1,q2⟩
 ·exact absurd q h
 ·obtain⟨y,hy⟩:=Oe (l:=l) (j:=(XD l s).toNat) asB
  exact⟨_,y,asB,hy⟩
theorem abv(p:Pr)(w:World)(ZF:p.In w)(hz:p.sz≤1048576)(a:Nat)(x:Hr)(hx:p.headers.l[a]?=some x):Kp Zx w 31 #[.agg #[.slice p.headers.p p.headers.l.length p.headers.cap,.slice p.metas.p p.metas.l.length p.metas.cap,.slice p.states.p p.states.l.length p.states.cap,.slice p.actions.p p.actions.l.length p.actions.cap,.slice p.tables.p p.tables.l.length p.tables.cap,.slice p.control.p p.control.l.length p.control.cap,.slice p.emit.p p.emit.l.length p.emit.cap],It.v (.num 1 a 0)] (.int .i64 (Yu p (.num 1 a 0))):=by
 have hv:Yu p (.num 1 a 0)=Mo p a x:=as3;rw[hv];have hm:=Zo hx;exact aa0 _ _ _ _ _ _ _ _ _ _ _ _ _ _ _ _ _ _ _ _ _ _ _ _ _ _ _ _ _ _ _ _ _ _ _ _ _ _ _ _ _ _ _ _ (eC p w ZF hz a x hx)
theorem abu(p:Pr)(w:World)(ZF:p.In w)(hz:p.sz≤1048576)(a b:Nat)(x:Hr)(y:Fd)(hx:p.headers.l[a]?=some x)(hy:x.fields.l[b]?=some y):Kp Zx w 31 #[.agg #[.slice p.headers.p p.headers.l.length p.headers.cap,.slice p.metas.p p.metas.l.length p.metas.cap,.slice p.states.p p.states.l.length p.states.cap,.slice p.actions.p p.actions.l.length p.actions.cap,.slice p.tables.p p.tables.l.length p.tables.cap,.slice p.control.p p.control.l.length p.control.cap,.slice p.emit.p p.emit.l.length p.emit.cap],It.v (.num 2 a b)] (.int .i64 (Yu p (.num 2 a b))):=by
 have hv:Yu p (.num 2 a b)=if X5 p (a:Int) y.name=(b:Int) then 0 else 8:=atr;open Z renaming agI→Ab in exact vK
theorem aby(p:Pr)(w:World)(ZF:p.In w)(hz:p.sz≤1048576)(a:Nat)(x:Fd)(hx:p.metas.l[a]?=some x):Kp Zx w 31 #[.agg #[.slice p.headers.p p.headers.l.length p.headers.cap,.slice p.metas.p p.metas.l.length p.metas.cap,.slice p.states.p p.states.l.length p.states.cap,.slice p.actions.p p.actions.l.length p.actions.cap,.slice p.tables.p p.tables.l.length p.tables.cap,.slice p.control.p p.control.l.length p.control.cap,.slice p.emit.p p.emit.l.length p.emit.cap],It.v (.num 3 a 0)] (.int .i64 (Yu p (.num 3 a 0))):=by
 have hv:Yu p (.num 3 a 0)=if Xv p.metas.l x.name=(a:Int) then 0 else 8:=as3;open Z renaming amg→zm in exact tV
theorem abB(p:Pr)(w:World)(ZF:p.In w)(hz:p.sz≤1048576)(a:Nat)(x:Sa)(hx:p.states.l[a]?=some x):Kp Zx w 31 #[.agg #[.slice p.headers.p p.headers.l.length p.headers.cap,.slice p.metas.p p.metas.l.length p.metas.cap,.slice p.states.p p.states.l.length p.states.cap,.slice p.actions.p p.actions.l.length p.actions.cap,.slice p.tables.p p.tables.l.length p.tables.cap,.slice p.control.p p.control.l.length p.control.cap,.slice p.emit.p p.emit.l.length p.emit.cap],It.v (.num 4 a 0)] (.int .i64 (Yu p (.num 4 a 0))):=by
 have hv:Yu p (.num 4 a 0)=if (W9 p.states.l x.name).1=(a:Int) then 0 else 8:=as3;rw[hv];have hm:=Zo hx;open Z renaming aqm→Pp in exact PS
theorem abE(p:Pr)(w:World)(ZF:p.In w)(hz:p.sz≤1048576)(a b:Nat)(x:Sa)(y:ByteArray)(hx:p.states.l[a]?=some x)(hy:x.takes.l[b]?=some y):Kp Zx w 31 #[.agg #[.slice p.headers.p p.headers.l.length p.headers.cap,.slice p.metas.p p.metas.l.length p.metas.cap,.slice p.states.p p.states.l.length p.states.cap,.slice p.actions.p p.actions.l.length p.actions.cap,.slice p.tables.p p.tables.l.length p.tables.cap,.slice p.control.p p.control.l.length p.control.cap,.slice p.emit.p p.emit.l.length p.emit.cap],It.v (.num 5 a b)] (.int .i64 (Yu p (.num 5 a b))):=by
 have hv:Yu p (.num 5 a b)=if YF p.headers.l y=-1 then 7 else 0:=atr;rw[hv];have hm:=Zo hx;have US:=Zo hy;open Z renaming aqn→Pp in exact PS
theorem abz(p:Pr)(w:World)(ZF:p.In w)(hz:p.sz≤1048576)(a:Nat)(x:Sa)(hx:p.states.l[a]?=some x):Kp Zx w 31 #[.agg #[.slice p.headers.p p.headers.l.length p.headers.cap,.slice p.metas.p p.metas.l.length p.metas.cap,.slice p.states.p p.states.l.length p.states.cap,.slice p.actions.p p.actions.l.length p.actions.cap,.slice p.tables.p p.tables.l.length p.tables.cap,.slice p.control.p p.control.l.length p.control.cap,.slice p.emit.p p.emit.l.length p.emit.cap],It.v (.num 6 a 0)] (.int .i64 (Yu p (.num 6 a 0))):=by
 have hv:Yu p (.num 6 a 0)=PD p x:=as3;rw[hv];have hm:=Zo hx;open Z renaming aqo→Pp in exact PS
theorem abr(p:Pr)(w:World)(ZF:p.In w)(hz:p.sz≤1048576)(a b:Nat)(x:Sa)(y:Ca)(hx:p.states.l[a]?=some x)(hy:x.cases.l[b]?=some y):Kp Zx w 31 #[.agg #[.slice p.headers.p p.headers.l.length p.headers.cap,.slice p.metas.p p.metas.l.length p.metas.cap,.slice p.states.p p.states.l.length p.states.cap,.slice p.actions.p p.actions.l.length p.actions.cap,.slice p.tables.p p.tables.l.length p.tables.cap,.slice p.control.p p.control.l.length p.control.cap,.slice p.emit.p p.emit.l.length p.emit.cap],It.v (.num 7 a b)] (.int .i64 (Yu p (.num 7 a b))):=by
 have hv:Yu p (.num 7 a b)=if (W9 p.states.l y.tX9).2 then 0 else 7:=atr;rw[hv];have hm:=Zo hx;have US:=Zo hy;open Z renaming aqp→Pp in exact PS
theorem abq(p:Pr)(w:World)(ZF:p.In w)(hz:p.sz≤1048576)(a:Nat)(x:Ac)(hx:p.actions.l[a]?=some x):Kp Zx w 31 #[.agg #[.slice p.headers.p p.headers.l.length p.headers.cap,.slice p.metas.p p.metas.l.length p.metas.cap,.slice p.states.p p.states.l.length p.states.cap,.slice p.actions.p p.actions.l.length p.actions.cap,.slice p.tables.p p.tables.l.length p.tables.cap,.slice p.control.p p.control.l.length p.control.cap,.slice p.emit.p p.emit.l.length p.emit.cap],It.v (.num 8 a 0)] (.int .i64 (Yu p (.num 8 a 0))):=by
 have hv:Yu p (.num 8 a 0)=if XD p.actions.l x.name=(a:Int) then 0 else 8:=as3;rw[hv];have hm:=Zo hx;open Z renaming aeu→KZ in exact Iq
theorem abA(p:Pr)(w:World)(ZF:p.In w)(hz:p.sz≤1048576)(a b:Nat)(x:Ac)(y:Fd)(hx:p.actions.l[a]?=some x)(hy:x.params.l[b]?=some y):Kp Zx w 31 #[.agg #[.slice p.headers.p p.headers.l.length p.headers.cap,.slice p.metas.p p.metas.l.length p.metas.cap,.slice p.states.p p.states.l.length p.states.cap,.slice p.actions.p p.actions.l.length p.actions.cap,.slice p.tables.p p.tables.l.length p.tables.cap,.slice p.control.p p.control.l.length p.control.cap,.slice p.emit.p p.emit.l.length p.emit.cap],It.v (.num 9 a b)] (.int .i64 (Yu p (.num 9 a b))):=by
 have hv:Yu p (.num 9 a b)=if WN p (a:Int) y.name=(b:Int) then 0 else 8:=atr;rw[hv];have hm:=Zo hx;have US:=Zo hy;open Z renaming aev→KZ in exact Iq
theorem abD(p:Pr)(w:World)(ZF:p.In w)(hz:p.sz≤1048576)(a:Nat)(x:Ta)(hx:p.tables.l[a]?=some x):Kp Zx w 31 #[.agg #[.slice p.headers.p p.headers.l.length p.headers.cap,.slice p.metas.p p.metas.l.length p.metas.cap,.slice p.states.p p.states.l.length p.states.cap,.slice p.actions.p p.actions.l.length p.actions.cap,.slice p.tables.p p.tables.l.length p.tables.cap,.slice p.control.p p.control.l.length p.control.cap,.slice p.emit.p p.emit.l.length p.emit.cap],It.v (.num 11 a 0)] (.int .i64 (Yu p (.num 11 a 0))):=by
 have hv:Yu p (.num 11 a 0)=if Tp p.tables.l x.name=(a:Int) then 0 else 8:=as3;rw[hv];have hm:=Zo hx;open Z renaming aqe→Po in exact PR
theorem abw(p:Pr)(w:World)(ZF:p.In w)(hz:p.sz≤1048576)(a b:Nat)(x:Ta)(y:Ke)(hx:p.tables.l[a]?=some x)(hy:x.keys.l[b]?=some y):Kp Zx w 31 #[.agg #[.slice p.headers.p p.headers.l.length p.headers.cap,.slice p.metas.p p.metas.l.length p.metas.cap,.slice p.states.p p.states.l.length p.states.cap,.slice p.actions.p p.actions.l.length p.actions.cap,.slice p.tables.p p.tables.l.length p.tables.cap,.slice p.control.p p.control.l.length p.control.cap,.slice p.emit.p p.emit.l.length p.emit.cap],It.v (.num 12 a b)] (.int .i64 (Yu p (.num 12 a b))):=by
 have hv:Yu p (.num 12 a b)=if y.e.there (YP p (-1)) then 0 else 7:=atr;rw[hv];have hm:=Zo hx;have US:=Zo hy;open Z renaming aqf→Po in exact PR
theorem abx(p:Pr)(w:World)(ZF:p.In w)(hz:p.sz≤1048576)(a b:Nat)(x:Ta)(y:ByteArray)(hx:p.tables.l[a]?=some x)(hy:x.actions.l[b]?=some y):Kp Zx w 31 #[.agg #[.slice p.headers.p p.headers.l.length p.headers.cap,.slice p.metas.p p.metas.l.length p.metas.cap,.slice p.states.p p.states.l.length p.states.cap,.slice p.actions.p p.actions.l.length p.actions.cap,.slice p.tables.p p.tables.l.length p.tables.cap,.slice p.control.p p.control.l.length p.control.cap,.slice p.emit.p p.emit.l.length p.emit.cap],It.v (.num 13 a b)] (.int .i64 (Yu p (.num 13 a b))):=by
 have hv:Yu p (.num 13 a b)=if XD p.actions.l y=-1 then 7 else if XT x.actions.l y=(b:Int) then 0 else 8:=atr;rw[hv];have hm:=Zo hx;have US:=Zo hy;open Z renaming aqg→Po in exact PR
theorem abs(p:Pr)(w:World)(ZF:p.In w)(hz:p.sz≤1048576)(a:Nat)(x:Ta)(hx:p.tables.l[a]?=some x)(hd:XT x.actions.l x.dflt.name≠-1→XD p.actions.l x.dflt.name≠-1):Kp Zx w 31 #[.agg #[.slice p.headers.p p.headers.l.length p.headers.cap,.slice p.metas.p p.metas.l.length p.metas.cap,.slice p.states.p p.states.l.length p.states.cap,.slice p.actions.p p.actions.l.length p.actions.cap,.slice p.tables.p p.tables.l.length p.tables.cap,.slice p.control.p p.control.l.length p.control.cap,.slice p.emit.p p.emit.l.length p.emit.cap],It.v (.num 14 a 0)] (.int .i64 (Yu p (.num 14 a 0))):=by
 have hv:Yu p (.num 14 a 0)=SU x.actions.l x.dflt.name x.dflt.args.l.length (match p.actions.l[(XD p.actions.l x.dflt.name).toNat]? with|some z=>z.params.l.length|none=>0):=as3;rw[hv];have hm:=Zo hx;open Z renaming aqh→Po in exact PR
theorem abt(p:Pr)(w:World)(ZF:p.In w)(hz:p.sz≤1048576)(a:Nat)(x:ByteArray)(hx:p.emit.l[a]?=some x):Kp Zx w 31 #[.agg #[.slice p.headers.p p.headers.l.length p.headers.cap,.slice p.metas.p p.metas.l.length p.metas.cap,.slice p.states.p p.states.l.length p.states.cap,.slice p.actions.p p.actions.l.length p.actions.cap,.slice p.tables.p p.tables.l.length p.tables.cap,.slice p.control.p p.control.l.length p.control.cap,.slice p.emit.p p.emit.l.length p.emit.cap],It.v (.num 15 a 0)] (.int .i64 (Yu p (.num 15 a 0))):=by
 have hv:Yu p (.num 15 a 0)=if YF p.headers.l x=-1 then 7 else if XT p.emit.l x=(a:Int) then 0 else 8:=as3;rw[hv];have hm:=Zo hx;obtain⟨pa,hp,hc⟩:=ZF.emit.row a x hx;have hl:=(Zi.1 hx).1;have hc1:Yg w (pa.add (a*1)) [.string x]:=hc;have h1:=OM p w ZF hz x;have h2:=yE (YF p.headers.l x) p.emit a x hx w ZF.emit (U4 hz).2.2.2.2.2;rw[hp]at h1 ⊢;simp only[Sl.v,hp]at h2;exact aaY _ _ _ _ _ _ _ _ _ _ _ _ _ _ _ _ _ _ _ _ _ _ _ _ _ _ _ _ _ _ _ _ _ _ _ _ _ _ _ _ _ _ _ _ _ (a) (hl) (hc1) (h1) (h2)
theorem abC(p:Pr)(w:World)(ZF:p.In w)(hz:p.sz≤1048576)(a:Int)(s:St)(hs:s.In w)(YB:s.sz≤1048576):Kp Zx w 31 #[.agg #[.slice p.headers.p p.headers.l.length p.headers.cap,.slice p.metas.p p.metas.l.length p.metas.cap,.slice p.states.p p.states.l.length p.states.cap,.slice p.actions.p p.actions.l.length p.actions.cap,.slice p.tables.p p.tables.l.length p.tables.cap,.slice p.control.p p.control.l.length p.control.cap,.slice p.emit.p p.emit.l.length p.emit.cap],It.v (.st a s)] (.int .i64 (Yu p (.st a s))) :=
 aa7 _ _ _ _ _ _ _ _ _ _ _ _ _ _ _ _ _ _ _ _ _ _ _ _ _ _ _ _ _ _ _ _ _ _ _ _ _ _ _ _ _ _ _ _ (eE p w ZF hz a s.kind s.head s.name s.e.op s.e.lit.w s.e.lit.h s.e.lit.l s.e.head s.e.name s.e.hi s.e.lo s.e.p s.e.args.length s.e.cap s.p s.thn.length s.cap s.q s.els.length s.cbp _ (JR p w ZF hz a s.e (St.In.inE hs) (by have:=St.sz_eq s;omega)))
def Hx(p:Pr)(z:It):Prop:=∀a x,z=.num 14 a 0→p.tables.l[a]?=some x→XT x.actions.l x.dflt.name≠-1→XD p.actions.l x.dflt.name≠-1
theorem abp(p:Pr)(w:World)(ZF:p.In w)(hz:p.sz≤1048576)(z:It)(VS:VM p w z)(hd:Hx p z):Kp Zx w 31 #[.agg #[.slice p.headers.p p.headers.l.length p.headers.cap,.slice p.metas.p p.metas.l.length p.metas.cap,.slice p.states.p p.states.l.length p.states.cap,.slice p.actions.p p.actions.l.length p.actions.cap,.slice p.tables.p p.tables.l.length p.tables.cap,.slice p.control.p p.control.l.length p.control.cap,.slice p.emit.p p.emit.l.length p.emit.cap],z.v] (.int .i64 (Yu p z)):=by
 cases VS with
 | header a x hx=>exact abv p w ZF hz a x hx
 | field a b x y hx hy=>exact abu p w ZF hz a b x y hx hy
 | mta a x hx=>exact aby p w ZF hz a x hx
 | state a x hx=>exact abB p w ZF hz a x hx
 | take a b x y hx hy=>exact abE p w ZF hz a b x y hx hy
 | next a x hx=>exact abz p w ZF hz a x hx
 | case_ a b x y hx hy=>exact abr p w ZF hz a b x y hx hy
 | action a x hx=>exact abq p w ZF hz a x hx
 | param a b x y hx hy=>exact abA p w ZF hz a b x y hx hy
 | table a x hx=>exact abD p w ZF hz a x hx
 | key a b x y hx hy=>exact abw p w ZF hz a b x y hx hy
 | listed a b x y hx hy=>exact abx p w ZF hz a b x y hx hy
 | dflt a x hx=>exact abs p w ZF hz a x hx (hd a x rfl hx)
 | emit a x hx=>exact abt p w ZF hz a x hx
 | stmt a s hs YB=>exact abC p w ZF hz a s hs YB
open Go.RowKit Go.Shelf
def It.kd:It→Int
 | .num k _ _=>k
 | .st _ _=>10
def Sr(u v:It)(l:List It):Prop:=∀k:Nat,l[k]?=some v→∃j:Nat,j<k∧l[j]?=some u
theorem Sr.app{u v:It}{a b:List It}(ha:Sr u v a)(hb:Sr u v b):Sr u v (a++b):=fun k hk=>by
 by_cases h:k<a.length
 ·rw[List.getElem?_append_left h]at hk
  obtain⟨j,hj,e⟩:=ha k hk;exact⟨j,hj,by rw[List.getElem?_append_left (by omega)];exact e⟩
 ·rw[List.getElem?_append_right asB]at hk
  obtain⟨j,hj,e⟩:=hb _ hk;exact⟨a.length+j,asB,by rw[List.getElem?_append_right (by omega)];simpa using e⟩
theorem Sr.none{u v:It}{l:List It}(h:v ∉ l):Sr u v l:=fun _ hk=>absurd (Zo hk) h
theorem Sr.last{u v:It}{c:List It}(hu:u∈c)(hv:v ∉ c):Sr u v (c++[v]):=fun k hk=>by
 by_cases h:k<c.length
 ·rw[List.getElem?_append_left h]at hk
  exact absurd (Zo hk) hv
 ·obtain⟨j,hj,e⟩:=List.mem_iff_getElem.1 hu
  exact⟨j,asB,by rw[List.getElem?_append_left hj,List.getElem?_eq_getElem hj,e]⟩
theorem Sr.fl{α:Type}{u v:It}(f:Nat→α→List It):∀(l:List α) (b:Nat),(∀i x,l[i]?=some x→Sr u v (f (b+i) x))→Sr u v (YD f b l)
 | [],_,_=>.none (by simp[YD])
 | x :: l,b,h=>by
  unfold YD;exact (h 0 x rfl).app (Sr.fl f l (b+1) fun i y hy=>by rw[show b+1+i=b+(i+1) by omega];exact h (i+1) y (by simpa using hy))
theorem ji(a:Int):∀s:St,∀z∈s.enc a,z.kd=10:=fun s=>St.ind (Q:=fun s=>∀z∈s.enc a,z.kd=10) (fun s h1 h2 z hm=>by
 rw[St.enc_eq]at hm;rcases List.mem_cons.1 hm with rfl|hm
 ·rfl
 rcases Zn.1 hm with hm|hm
 ·rw[St.encs_fl a _ 0]at hm
  obtain⟨i,x,hx,Vx⟩:=WM _ z _ 0 hm;exact h1 x (Zo hx) z Vx
 ·rw[St.encs_fl a _ 0]at hm
  obtain⟨i,x,hx,Vx⟩:=WM _ z _ 0 hm;exact h2 x (Zo hx) z Vx) s
theorem JA(a:Int)(l:List St):∀z∈St.encs a l,z.kd=10:=fun z hm=>by
 rw[St.encs_fl a _ 0]at hm;obtain⟨i,x,hx,Vx⟩:=WM _ z _ 0 hm;exact ji a x z Vx
theorem Sm{k:Int}{a n:Nat}{z:It}(h:z∈Wu k a n):z.kd=k:=by obtain⟨j,_,rfl⟩:=UY h;rfl
theorem Lw{α:Type}{v:It}(f:Nat→α→List It)(l:List α)(b:Nat)(h:∀i x,∀z∈f i x,z.kd≠v.kd):v ∉ YD f b l:=fun hm=>by
 obtain⟨i,x,_,hz⟩:=WM f v l b hm;exact h _ x v hz rfl
theorem nj(p:Pr)(a b:Nat)(x:Ta)(hx:p.tables.l[a]?=some x)(hb:b<x.actions.l.length):Sr (.num 13 a b) (.num 14 a 0) (Yh p):=by
 unfold Yh;refine .app (.none (Lw _ _ _ fun i x z hm=>?_)) (.app (.none (Lw _ _ _ fun i x z hm=>?_)) (.app (.none (Lw _ _ _ fun i x z hm=>?_)) (.app (.none (Lw _ _ _ fun i x z hm=>?_)) (.app (.fl _ _ _ fun i y hy=>?_) (.app (.none fun hm=>?_) (.none (Lw _ _ _ fun i x z hm=>?_)))))))
 ·rcases List.mem_cons.1 hm with rfl|hm
  ·simp[It.kd]
  ·rw[Sm hm];simp[It.kd]
 ·obtain rfl:=List.mem_singleton.1 hm
  simp[It.kd]
 ·rcases List.mem_cons.1 hm with rfl|hm
  ·simp[It.kd]
  rcases Zn.1 hm with hm|hm
  ·rw[Sm hm];simp[It.kd]
  rcases List.mem_cons.1 hm with rfl|hm
  ·simp[It.kd]
  ·rw[Sm hm];simp[It.kd]
 ·rcases List.mem_cons.1 hm with rfl|hm
  ·simp[It.kd]
  rcases Zn.1 hm with hm|hm
  ·rw[Sm hm];simp[It.kd]
  ·rw[JA _ _ z hm];simp[It.kd]
 ·rw[Zv]
  by_cases e:i=a
  ·subst e
   rw[hx]at hy;obtain rfl:=Option.some.inj hy;have q:VG i x.keys.l.length x.actions.l.length=(.num 11 i 0 :: (Wu 12 i x.keys.l.length++Wu 13 i x.actions.l.length))++[.num 14 i 0]:=by simp[VG]
   rw[q];refine .last (List.mem_cons_of_mem _ (List.mem_append_right _ (Zo (JM 13 i _ b hb)))) fun hm=>?_;rcases List.mem_cons.1 hm with h|hm
   ·cases h
   rcases Zn.1 hm with hm|hm
   ·have:=Sm hm;cases this
   ·have:=Sm hm;cases this
  ·refine .none fun hm=>?_
   rcases List.mem_cons.1 hm with h|hm
   ·cases h
   rcases Zn.1 hm with hm|hm
   ·have:=Sm hm;cases this
   rcases Zn.1 hm with hm|hm
   ·have:=Sm hm;cases this
   ·have h:=List.mem_singleton.1 hm
    injection h with _ h2 _
    exact e h2.symm
 ·have:=JA _ _ _ hm;cases this
 ·exact Dp
theorem H8{α:Type}(q:α→Bool):∀(l:List α) (k:Nat),YL q l k≠-1→∃(i:Nat) (x:α),l[i]?=some x∧q x=true
 | [],k,h=>absurd rfl h
 | x :: l,k,h=>by
  by_cases e:q x=true
  ·exact⟨0,x,rfl,e⟩
  ·rw[YL,if_neg e]at h
   obtain⟨i,y,hi,hy⟩:=H8 q l (k+1) h;exact⟨i+1,y,by simpa using hi,hy⟩
theorem yZ(p:Pr)(k:Nat)(z:It)(hk:(Yh p)[k]?=some z)(h:∀j y,j<k→(Yh p)[j]?=some y→Yu p y=0):Hx p z:=by
 rintro a x rfl hx hn;obtain⟨b,y,hb,hy⟩:=H8 (fun y:ByteArray=>y.toList==x.dflt.name.toList) x.actions.l 0 hn;have ZC:=(Zi.1 hb).1;obtain⟨j,hj,e⟩:=nj p a b x hx ZC k hk;have q:=h j _ hj e;have hv:Yu p (.num 13 a b)=if XD p.actions.l y=-1 then 7 else if XT x.actions.l y=(b:Int) then 0 else 8:=by simp[Yu,Wm,hx,hb]
 exact te
def Tm(p:Pr):List It→Nat→Nat × Int
 | [],n=>(n,0)
 | z :: l,n=>if Yu p z=0 then Tm p l (n+1) else (n,Yu p z)
theorem F9(p:Pr):∀(l:List It) (n k:Nat) (z:It),l[k]?=some z→(∀j y,j<k→l[j]?=some y→Yu p y=0)→Yu p z≠0→Tm p l n=(n+k,Yu p z)
 | x :: l,n,0,z,hk,_,hz=>by
  obtain rfl:x=z:=by simpa using hk
  rw[Tm,if_neg hz];rfl
 | x :: l,n,k+1,z,hk,h,hz=>by
  rw[Tm,if_pos (h 0 x asB rfl),F9 p l (n+1) k z (by simpa using hk) (fun j y hj hy=>h (j+1) y asB ats) hz];congr 1
  omega
theorem F8(p:Pr):∀(l:List It) (n:Nat),(∀j y,j<l.length→l[j]?=some y→Yu p y=0)→Tm p l n=(n+l.length,0)
 | [],n,_=>rfl
 | x :: l,n,h=>by
  rw[Tm,if_pos (h 0 x asD rfl),F8 p l (n+1) (fun j y hj hy=>h (j+1) y asM ats)];congr 1
  simp only[Zk];omega
end Go.Proofs.YtknmeggfokpbjaaGreat

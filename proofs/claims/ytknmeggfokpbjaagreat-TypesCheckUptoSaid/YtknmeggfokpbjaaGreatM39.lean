/-
  WHAT IS PROVED HERE: a part of the proof (made narrower and merged by program; the parts: Wk Wo).
-/
import Derived.Test.YtknmeggfokpbjaaGreatM37
import Derived.Test.YtknmeggfokpbjaaGreatM38
import Derived.Test.YtknmeggfokpbjaaGreatM26
import Derived.Test.YtknmeggfokpbjaaGreatM10
set_option maxRecDepth 100000
set_option maxHeartbeats 8000000
set_option linter.all false
namespace Go.Proofs.YtknmeggfokpbjaaGreat
open Z
open Go.RowKit Go.Proofs.Tryz
open Bool renaming and_eq_true→Zc
open List renaming getElem?_eq_some_iff→Zi,mem_append→Zn,mem_of_getElem?→Zo
open Nat renaming zero_add→Zv
open Go.Proofs.Tryz renaming prog→Zx
open Go.RowKit
def WG(p:Pr)(kind:Int)(a b:Nat):Int :=
 if kind=1 then (match p.headers.l[a]? with|some x=>(if YF p.headers.l x.name=(a:Int) then (if (V5 x.fields.l).tmod 8=0∧V5 x.fields.l≤256 then 0 else 10) else 8)|none=>0) else
 if kind=2 then (match p.headers.l[a]? with|some x=>(match x.fields.l[b]? with|some y=>(if X5 p (a:Int) y.name=(b:Int) then 0 else 8)|none=>0)|none=>0) else
 if kind=3 then (match p.metas.l[a]? with|some x=>(if Xv p.metas.l x.name=(a:Int) then 0 else 8)|none=>0) else
 if kind=4 then (match p.states.l[a]? with|some x=>(if (W9 p.states.l x.name).1=(a:Int) then 0 else 8)|none=>0) else
 if kind=5 then (match p.states.l[a]? with|some x=>(match x.takes.l[b]? with|some y=>(if (YF p.headers.l y !=-1) then 0 else 7)|none=>0)|none=>0) else
 if kind=6 then (match p.states.l[a]? with|some x=>(if (if (x.tX9.toList==([]:List UInt8))=true then x.keys.l.all (Ex.there (YP p (-1))) else (W9 p.states.l x.tX9).2) then 0 else 7)|none=>0) else
 if kind=7 then (match p.states.l[a]? with|some x=>(match x.cases.l[b]? with|some y=>(if (W9 p.states.l y.tX9).2 then 0 else 7)|none=>0)|none=>0) else
 if kind=8 then (match p.actions.l[a]? with|some x=>(if XD p.actions.l x.name=(a:Int) then 0 else 8)|none=>0) else
 if kind=9 then (match p.actions.l[a]? with|some x=>(match x.params.l[b]? with|some y=>(if WN p (a:Int) y.name=(b:Int) then 0 else 8)|none=>0)|none=>0) else
 if kind=11 then (match p.tables.l[a]? with|some x=>(if Tp p.tables.l x.name=(a:Int) then 0 else 8)|none=>0) else
 if kind=12 then (match p.tables.l[a]? with|some x=>(match x.keys.l[b]? with|some y=>(if y.e.there (YP p (-1)) then 0 else 7)|none=>0)|none=>0) else
 if kind=13 then (match p.tables.l[a]? with|some x=>(match x.actions.l[b]? with|some y=>(if XD p.actions.l y=-1 then 7 else if XT x.actions.l y<(b:Int) then 8 else 0)|none=>0)|none=>0) else
 if kind=14 then (match p.tables.l[a]? with|some x=>(if XT x.actions.l x.dflt.name=-1∨XD p.actions.l x.dflt.name=-1 then 7 else (match p.actions.l[(XD p.actions.l x.dflt.name).toNat]? with|some z=>(if x.dflt.args.l.length<z.params.l.length then 13 else if z.params.l.length<x.dflt.args.l.length then 5 else 0)|none=>0))|none=>0) else
 if kind=15 then (match p.emit.l[a]? with|some x=>(if YF p.headers.l x=-1 then 7 else if XT p.emit.l x<(a:Int) then 8 else 0)|none=>0) else
 0
def YU(p:Pr):It→Int
 | .st a s=>if s.kind=3∧0≤a then 9 else if sB p s.kind s.head s.name (s.e.there (YP p a)) then 0 else 7
 | .num kind a b=>WG p kind a b
theorem Ew(p:Pr)(w:World)(ZF:p.In w)(hz:p.sz≤1048576)(act)(e:Ex)(he:e.In w)(hb:e.wt≤1048576):Kp Zx w 111 #[.agg #[.slice p.headers.p p.headers.l.length p.headers.cap,.slice p.metas.p p.metas.l.length p.metas.cap,.slice p.states.p p.states.l.length p.states.cap,.slice p.actions.p p.actions.l.length p.actions.cap,.slice p.tables.p p.tables.l.length p.tables.cap,.slice p.control.p p.control.l.length p.control.cap,.slice p.emit.p p.emit.l.length p.emit.cap],.int .i64 act,.agg #[.int .u8 e.op,.int .i64 e.lit.w,.int .u64 e.lit.h,.int .u64 e.lit.l,.string e.head,.string e.name,.int .i64 e.hi,.int .i64 e.lo,.slice e.p e.args.length e.cap]] (.bool (e.there (YP p act))) :=
 Kp.of fun w' ⟨y,hy⟩=>by
  have:=dy p act hz e w' (hy▸ZF.plus y) (hy▸he.plus y) hb;cases e;exact this
theorem bj(p:Pr)(w:World)(ZF:p.In w)(hz:p.sz≤1048576)(a:Nat)(x:Hr)(hx:p.headers.l[a]?=some x):Kp Zx w 40 #[.agg #[.slice p.headers.p p.headers.l.length p.headers.cap,.slice p.metas.p p.metas.l.length p.metas.cap,.slice p.states.p p.states.l.length p.states.cap,.slice p.actions.p p.actions.l.length p.actions.cap,.slice p.tables.p p.tables.l.length p.tables.cap,.slice p.control.p p.control.l.length p.control.cap,.slice p.emit.p p.emit.l.length p.emit.cap],It.v (.num 1 a 0)] (.int .i64 (YU p (.num 1 a 0))):=by
 have hv:YU p (.num 1 a 0)=(if YF p.headers.l x.name=(a:Int) then (if (V5 x.fields.l).tmod 8=0∧V5 x.fields.l≤256 then 0 else 10) else 8):=asZ;rw[hv];have hm:=Zo hx;obtain⟨pa,hp,hc⟩:=ZF.headers.row a x hx;have hl:=(Zi.1 hx).1;have hc1:Yg w (pa.add (a*2)) [.string x.name,.slice x.fields.p x.fields.l.length x.fields.cap]:=hc;have h2:=dx x.name x.fields w _ (ZF.headers.kids x hm).fields (Xk Fd.sz Fd.sz_pos x.fields (by have h3:=YW Hr.sz p.headers.l x hm;unfold Pr.sz Hr.sz Sl.size at *;omega));simp only[Sl.v]at h2;have h1:=OO p w ZF hz x.name;rw[hp]at h1 ⊢;exact gG _ _ _ _ _ _ _ _ _ _ _ _ _ _ _ _ _ _ _ _ _ _ _ _ _ _ _ _ _ _ _ _ _ _ _ _ _ _ _ _ _ _ _ _ _ (mF _ _ _ _ _ _ _ _ _ _ _ _ _ _ _ _ _ _ _ _ _ _ _ _ _ _ _ _ _ _ _ _ _ _ _ _ _ _ _ _ _ _ _ _ _ _ _ _ _ (a) (hl) (hc1) (h1) (h2) (rfl))
theorem bi(p:Pr)(w:World)(ZF:p.In w)(hz:p.sz≤1048576)(a b:Nat)(x:Hr)(y:Fd)(hx:p.headers.l[a]?=some x)(hy:x.fields.l[b]?=some y):Kp Zx w 40 #[.agg #[.slice p.headers.p p.headers.l.length p.headers.cap,.slice p.metas.p p.metas.l.length p.metas.cap,.slice p.states.p p.states.l.length p.states.cap,.slice p.actions.p p.actions.l.length p.actions.cap,.slice p.tables.p p.tables.l.length p.tables.cap,.slice p.control.p p.control.l.length p.control.cap,.slice p.emit.p p.emit.l.length p.emit.cap],It.v (.num 2 a b)] (.int .i64 (YU p (.num 2 a b))):=by
 have hv:YU p (.num 2 a b)=(if X5 p (a:Int) y.name=(b:Int) then 0 else 8):=ata;open Z renaming agJ→Ab in exact vK
theorem bm(p:Pr)(w:World)(ZF:p.In w)(hz:p.sz≤1048576)(a:Nat)(x:Fd)(hx:p.metas.l[a]?=some x):Kp Zx w 40 #[.agg #[.slice p.headers.p p.headers.l.length p.headers.cap,.slice p.metas.p p.metas.l.length p.metas.cap,.slice p.states.p p.states.l.length p.states.cap,.slice p.actions.p p.actions.l.length p.actions.cap,.slice p.tables.p p.tables.l.length p.tables.cap,.slice p.control.p p.control.l.length p.control.cap,.slice p.emit.p p.emit.l.length p.emit.cap],It.v (.num 3 a 0)] (.int .i64 (YU p (.num 3 a 0))):=by
 have hv:YU p (.num 3 a 0)=(if Xv p.metas.l x.name=(a:Int) then 0 else 8):=asZ;open Z renaming amh→zm in exact tV
theorem br(p:Pr)(w:World)(ZF:p.In w)(hz:p.sz≤1048576)(a:Nat)(x:Sa)(hx:p.states.l[a]?=some x):Kp Zx w 40 #[.agg #[.slice p.headers.p p.headers.l.length p.headers.cap,.slice p.metas.p p.metas.l.length p.metas.cap,.slice p.states.p p.states.l.length p.states.cap,.slice p.actions.p p.actions.l.length p.actions.cap,.slice p.tables.p p.tables.l.length p.tables.cap,.slice p.control.p p.control.l.length p.control.cap,.slice p.emit.p p.emit.l.length p.emit.cap],It.v (.num 4 a 0)] (.int .i64 (YU p (.num 4 a 0))):=by
 have hv:YU p (.num 4 a 0)=(if (W9 p.states.l x.name).1=(a:Int) then 0 else 8):=asZ;rw[hv];have hm:=Zo hx;open Z renaming aqq→Pp in exact PS
theorem bw(p:Pr)(w:World)(ZF:p.In w)(hz:p.sz≤1048576)(a b:Nat)(x:Sa)(y:ByteArray)(hx:p.states.l[a]?=some x)(hy:x.takes.l[b]?=some y):Kp Zx w 40 #[.agg #[.slice p.headers.p p.headers.l.length p.headers.cap,.slice p.metas.p p.metas.l.length p.metas.cap,.slice p.states.p p.states.l.length p.states.cap,.slice p.actions.p p.actions.l.length p.actions.cap,.slice p.tables.p p.tables.l.length p.tables.cap,.slice p.control.p p.control.l.length p.control.cap,.slice p.emit.p p.emit.l.length p.emit.cap],It.v (.num 5 a b)] (.int .i64 (YU p (.num 5 a b))):=by
 have hv:YU p (.num 5 a b)=(if (YF p.headers.l y !=-1) then 0 else 7):=ata;rw[hv];have hm:=Zo hx;have US:=Zo hy;open Z renaming aqr→Pp in exact PS
theorem bo(p:Pr)(w:World)(ZF:p.In w)(hz:p.sz≤1048576)(a:Nat)(x:Sa)(hx:p.states.l[a]?=some x):Kp Zx w 40 #[.agg #[.slice p.headers.p p.headers.l.length p.headers.cap,.slice p.metas.p p.metas.l.length p.metas.cap,.slice p.states.p p.states.l.length p.states.cap,.slice p.actions.p p.actions.l.length p.actions.cap,.slice p.tables.p p.tables.l.length p.tables.cap,.slice p.control.p p.control.l.length p.control.cap,.slice p.emit.p p.emit.l.length p.emit.cap],It.v (.num 6 a 0)] (.int .i64 (YU p (.num 6 a 0))):=by
 have hv:YU p (.num 6 a 0)=(if (if (x.tX9.toList==([]:List UInt8))=true then x.keys.l.all (Ex.there (YP p (-1))) else (W9 p.states.l x.tX9).2) then 0 else 7):=asZ;rw[hv];have hm:=Zo hx;open Z renaming aqs→Pp in exact PS
theorem be(p:Pr)(w:World)(ZF:p.In w)(hz:p.sz≤1048576)(a b:Nat)(x:Sa)(y:Ca)(hx:p.states.l[a]?=some x)(hy:x.cases.l[b]?=some y):Kp Zx w 40 #[.agg #[.slice p.headers.p p.headers.l.length p.headers.cap,.slice p.metas.p p.metas.l.length p.metas.cap,.slice p.states.p p.states.l.length p.states.cap,.slice p.actions.p p.actions.l.length p.actions.cap,.slice p.tables.p p.tables.l.length p.tables.cap,.slice p.control.p p.control.l.length p.control.cap,.slice p.emit.p p.emit.l.length p.emit.cap],It.v (.num 7 a b)] (.int .i64 (YU p (.num 7 a b))):=by
 have hv:YU p (.num 7 a b)=(if (W9 p.states.l y.tX9).2 then 0 else 7):=ata;rw[hv];have hm:=Zo hx;have US:=Zo hy;open Z renaming aqt→Pp in exact PS
theorem bd(p:Pr)(w:World)(ZF:p.In w)(hz:p.sz≤1048576)(a:Nat)(x:Ac)(hx:p.actions.l[a]?=some x):Kp Zx w 40 #[.agg #[.slice p.headers.p p.headers.l.length p.headers.cap,.slice p.metas.p p.metas.l.length p.metas.cap,.slice p.states.p p.states.l.length p.states.cap,.slice p.actions.p p.actions.l.length p.actions.cap,.slice p.tables.p p.tables.l.length p.tables.cap,.slice p.control.p p.control.l.length p.control.cap,.slice p.emit.p p.emit.l.length p.emit.cap],It.v (.num 8 a 0)] (.int .i64 (YU p (.num 8 a 0))):=by
 have hv:YU p (.num 8 a 0)=(if XD p.actions.l x.name=(a:Int) then 0 else 8):=asZ;rw[hv];have hm:=Zo hx;open Z renaming aew→KZ in exact Iq
theorem bq(p:Pr)(w:World)(ZF:p.In w)(hz:p.sz≤1048576)(a b:Nat)(x:Ac)(y:Fd)(hx:p.actions.l[a]?=some x)(hy:x.params.l[b]?=some y):Kp Zx w 40 #[.agg #[.slice p.headers.p p.headers.l.length p.headers.cap,.slice p.metas.p p.metas.l.length p.metas.cap,.slice p.states.p p.states.l.length p.states.cap,.slice p.actions.p p.actions.l.length p.actions.cap,.slice p.tables.p p.tables.l.length p.tables.cap,.slice p.control.p p.control.l.length p.control.cap,.slice p.emit.p p.emit.l.length p.emit.cap],It.v (.num 9 a b)] (.int .i64 (YU p (.num 9 a b))):=by
 have hv:YU p (.num 9 a b)=(if WN p (a:Int) y.name=(b:Int) then 0 else 8):=ata;rw[hv];have hm:=Zo hx;have US:=Zo hy;open Z renaming aex→KZ in exact Iq
theorem bv(p:Pr)(w:World)(ZF:p.In w)(hz:p.sz≤1048576)(a:Nat)(x:Ta)(hx:p.tables.l[a]?=some x):Kp Zx w 40 #[.agg #[.slice p.headers.p p.headers.l.length p.headers.cap,.slice p.metas.p p.metas.l.length p.metas.cap,.slice p.states.p p.states.l.length p.states.cap,.slice p.actions.p p.actions.l.length p.actions.cap,.slice p.tables.p p.tables.l.length p.tables.cap,.slice p.control.p p.control.l.length p.control.cap,.slice p.emit.p p.emit.l.length p.emit.cap],It.v (.num 11 a 0)] (.int .i64 (YU p (.num 11 a 0))):=by
 have hv:YU p (.num 11 a 0)=(if Tp p.tables.l x.name=(a:Int) then 0 else 8):=asZ;rw[hv];have hm:=Zo hx;open Z renaming aqi→Po in exact PR
theorem bk(p:Pr)(w:World)(ZF:p.In w)(hz:p.sz≤1048576)(a b:Nat)(x:Ta)(y:Ke)(hx:p.tables.l[a]?=some x)(hy:x.keys.l[b]?=some y):Kp Zx w 40 #[.agg #[.slice p.headers.p p.headers.l.length p.headers.cap,.slice p.metas.p p.metas.l.length p.metas.cap,.slice p.states.p p.states.l.length p.states.cap,.slice p.actions.p p.actions.l.length p.actions.cap,.slice p.tables.p p.tables.l.length p.tables.cap,.slice p.control.p p.control.l.length p.control.cap,.slice p.emit.p p.emit.l.length p.emit.cap],It.v (.num 12 a b)] (.int .i64 (YU p (.num 12 a b))):=by
 have hv:YU p (.num 12 a b)=(if y.e.there (YP p (-1)) then 0 else 7):=ata;rw[hv];have hm:=Zo hx;have US:=Zo hy;open Z renaming aqj→Po in exact PR
theorem bl(p:Pr)(w:World)(ZF:p.In w)(hz:p.sz≤1048576)(a b:Nat)(x:Ta)(y:ByteArray)(hx:p.tables.l[a]?=some x)(hy:x.actions.l[b]?=some y):Kp Zx w 40 #[.agg #[.slice p.headers.p p.headers.l.length p.headers.cap,.slice p.metas.p p.metas.l.length p.metas.cap,.slice p.states.p p.states.l.length p.states.cap,.slice p.actions.p p.actions.l.length p.actions.cap,.slice p.tables.p p.tables.l.length p.tables.cap,.slice p.control.p p.control.l.length p.control.cap,.slice p.emit.p p.emit.l.length p.emit.cap],It.v (.num 13 a b)] (.int .i64 (YU p (.num 13 a b))):=by
 have hv:YU p (.num 13 a b)=(if XD p.actions.l y=-1 then 7 else if XT x.actions.l y<(b:Int) then 8 else 0):=ata;rw[hv];have hm:=Zo hx;have US:=Zo hy;open Z renaming aqk→Po in exact PR
theorem bf(p:Pr)(w:World)(ZF:p.In w)(hz:p.sz≤1048576)(a:Nat)(x:Ta)(hx:p.tables.l[a]?=some x):Kp Zx w 40 #[.agg #[.slice p.headers.p p.headers.l.length p.headers.cap,.slice p.metas.p p.metas.l.length p.metas.cap,.slice p.states.p p.states.l.length p.states.cap,.slice p.actions.p p.actions.l.length p.actions.cap,.slice p.tables.p p.tables.l.length p.tables.cap,.slice p.control.p p.control.l.length p.control.cap,.slice p.emit.p p.emit.l.length p.emit.cap],It.v (.num 14 a 0)] (.int .i64 (YU p (.num 14 a 0))):=by
 have hm:=Zo hx;open Z renaming aql→Po in exact PR
theorem bg(p:Pr)(w:World)(ZF:p.In w)(hz:p.sz≤1048576)(a:Nat)(x:ByteArray)(hx:p.emit.l[a]?=some x):Kp Zx w 40 #[.agg #[.slice p.headers.p p.headers.l.length p.headers.cap,.slice p.metas.p p.metas.l.length p.metas.cap,.slice p.states.p p.states.l.length p.states.cap,.slice p.actions.p p.actions.l.length p.actions.cap,.slice p.tables.p p.tables.l.length p.tables.cap,.slice p.control.p p.control.l.length p.control.cap,.slice p.emit.p p.emit.l.length p.emit.cap],It.v (.num 15 a 0)] (.int .i64 (YU p (.num 15 a 0))):=by
 have hv:YU p (.num 15 a 0)=(if YF p.headers.l x=-1 then 7 else if XT p.emit.l x<(a:Int) then 8 else 0):=asZ;rw[hv];have hm:=Zo hx;obtain⟨pa,hp,hc⟩:=ZF.emit.row a x hx;have hl:=(Zi.1 hx).1;have hc1:Yg w (pa.add (a*1)) [.string x]:=hc;have h2:=FU V2 w p.emit ZF.emit (U4 hz).2.2.2.2.2 x;simp only[Sl.v,hp]at h2;have h1:=OO p w ZF hz x;rw[hp]at h1 ⊢;exact gP _ _ _ _ _ _ _ _ _ _ _ _ _ _ _ _ _ _ _ _ _ _ _ _ _ _ _ _ _ _ _ _ _ _ _ _ _ _ _ _ _ _ _ _ _ (jK _ _ _ _ _ _ _ _ _ _ _ _ _ _ _ _ _ _ _ _ _ _ _ _ _ _ _ _ _ _ _ _ _ _ _ _ _ _ _ _ _ _ _ _ _ _ (a) (hl) (hc1) (h1) (h2) (RK (fun z:Hr=>z.name.toList==x.toList) p.headers.l) (rfl))
theorem bu(p:Pr)(w:World)(ZF:p.In w)(hz:p.sz≤1048576)(a:Int)(s:St)(hs:s.In w)(YB:s.sz≤1048576):Kp Zx w 40 #[.agg #[.slice p.headers.p p.headers.l.length p.headers.cap,.slice p.metas.p p.metas.l.length p.metas.cap,.slice p.states.p p.states.l.length p.states.cap,.slice p.actions.p p.actions.l.length p.actions.cap,.slice p.tables.p p.tables.l.length p.tables.cap,.slice p.control.p p.control.l.length p.control.cap,.slice p.emit.p p.emit.l.length p.emit.cap],It.v (.st a s)] (.int .i64 (YU p (.st a s))) :=
 gK _ _ _ _ _ _ _ _ _ _ _ _ _ _ _ _ _ _ _ _ _ _ _ _ _ _ _ _ _ _ _ _ _ _ _ _ _ _ _ _ _ _ _ _ _ (mJ p w ZF hz a s.kind s.head s.name s.e.op s.e.lit.w s.e.lit.h s.e.lit.l s.e.head s.e.name s.e.hi s.e.lo s.e.p s.e.args.length s.e.cap s.p s.thn.length s.cap s.q s.els.length s.cbp _ (Ew p w ZF hz a s.e (St.In.inE hs) (by have:=St.sz_eq s;omega))) (rfl)
theorem fI(p:Pr)(w:World)(ZF:p.In w)(hz:p.sz≤1048576)(z:It)(VS:VM p w z):Kp Zx w 40 #[.agg #[.slice p.headers.p p.headers.l.length p.headers.cap,.slice p.metas.p p.metas.l.length p.metas.cap,.slice p.states.p p.states.l.length p.states.cap,.slice p.actions.p p.actions.l.length p.actions.cap,.slice p.tables.p p.tables.l.length p.tables.cap,.slice p.control.p p.control.l.length p.control.cap,.slice p.emit.p p.emit.l.length p.emit.cap],z.v] (.int .i64 (YU p z)):=by
 cases VS with
 | header a x hx=>exact bj p w ZF hz a x hx
 | field a b x y hx hy=>exact bi p w ZF hz a b x y hx hy
 | mta a x hx=>exact bm p w ZF hz a x hx
 | state a x hx=>exact br p w ZF hz a x hx
 | take a b x y hx hy=>exact bw p w ZF hz a b x y hx hy
 | next a x hx=>exact bo p w ZF hz a x hx
 | case_ a b x y hx hy=>exact be p w ZF hz a b x y hx hy
 | action a x hx=>exact bd p w ZF hz a x hx
 | param a b x y hx hy=>exact bq p w ZF hz a b x y hx hy
 | table a x hx=>exact bv p w ZF hz a x hx
 | key a b x y hx hy=>exact bk p w ZF hz a b x y hx hy
 | listed a b x y hx hy=>exact bl p w ZF hz a b x y hx hy
 | dflt a x hx=>exact bf p w ZF hz a x hx
 | emit a x hx=>exact bg p w ZF hz a x hx
 | stmt a s hs YB=>exact bu p w ZF hz a s hs YB
open Go.RowKit Go.Shelf
theorem M1{α:Type}{lo hi:Int}{f:α→Bool}{l:List α}(h:Xe lo hi f l=true):(lo≤(l.length:Int)∧(l.length:Int)≤hi)∧∀x∈l,f x=true:=by
 unfold Xe at h;simp only[Zc,decide_eq_true_eq,List.all_eq_true]at h;exact h
theorem fJ(a:Int):∀(s:St) (n:Nat),s.one=true→St.mayB n s.thn=true→St.mayB n s.els=true→∀z∈s.enc a,∃t,z=.st a t∧t.one=true:=fun s=>St.ind (Q:=fun s=>∀n:Nat,s.one=true→St.mayB n s.thn=true→St.mayB n s.els=true→∀z∈s.enc a,∃t,z=.st a t∧t.one=true) (fun s h1 h2 n o1 m1 m2 z hz=>by
 have sub:∀l:List St,(∀x∈l,∀n:Nat,x.one=true→St.mayB n x.thn=true→St.mayB n x.els=true→∀z∈x.enc a,∃t,z=.st a t∧t.one=true)→∀n,St.mayB n l=true→∀z∈St.encs a l,∃t,z=.st a t∧t.one=true:=by
  intro l hl n hm z hz;cases n with
  | zero =>
   have:l=[]:=by simpa [St.mayB]using hm
   subst this;simp[St.encs]at hz
  | succ n =>
   obtain⟨-,Xs⟩:=M1 hm;rw[St.encs_fl a l 0]at hz;obtain⟨i,x,hx,Vx⟩:=WM _ z _ 0 hz;have ZV:=Zo hx;have h:=Xs x ZV;simp only[Zc]at h;exact hl x ZV n h.1 h.2.1 h.2.2 z Vx
 rw[St.enc_eq]at hz;rcases List.mem_cons.1 hz with rfl|hz
 ·exact⟨s,rfl,o1⟩
 rcases Zn.1 hz with hz|hz
 ·exact sub _ h1 n m1 z hz
 ·exact sub _ h2 n m2 z hz) s
theorem yo(a:Int)(l:List St)(n:Nat)(hm:St.mayB n l=true):∀z∈St.encs a l,∃t,z=.st a t∧t.one=true:=by
 intro z hz;cases n with
 | zero =>
  have:l=[]:=by simpa [St.mayB]using hm
  subst this;simp[St.encs]at hz
 | succ n =>
  obtain⟨-,Xs⟩:=M1 hm;rw[St.encs_fl a l 0]at hz;obtain⟨i,x,hx,Vx⟩:=WM _ z _ 0 hz;have h:=Xs x (Zo hx);simp only[Zc]at h;exact fJ a x n h.1 h.2.1 h.2.2 z Vx
theorem ab(p:Pr)(hB:Vr p=true):∀z∈Yh p,∀a s,z=.st a s→(a=-1∨0≤a)∧s.one=true:=by
 unfold Vr at hB;simp only[Zc]at hB;obtain⟨-,-,-,hA,-,hC,-⟩:=hB;intro z hm a s e;have asy:z.kd=10:=by rw[e];rfl
 unfold Yh at hm;rcases Zn.1 hm with hm|hm
 ·obtain⟨i,x,hx,hm⟩:=WM _ z _ 0 hm
  exact rG
 rcases Zn.1 hm with hm|hm
 ·obtain⟨i,x,hx,hm⟩:=WM _ z _ 0 hm
  obtain rfl:=List.mem_singleton.1 hm;cases e
 rcases Zn.1 hm with hm|hm
 ·obtain⟨i,x,hx,hm⟩:=WM _ z _ 0 hm
  rcases List.mem_cons.1 hm with rfl|hm
  ·cases e
  rcases Zn.1 hm with hm|hm
  ·obtain⟨j,hj,rfl⟩:=UY hm
   cases e
  exact rG
 rcases Zn.1 hm with hm|hm
 ·obtain⟨i,x,hx,hm⟩:=WM _ z _ 0 hm
  rw[Zv]at hm;rcases List.mem_cons.1 hm with rfl|hm
  ·cases e
  rcases Zn.1 hm with hm|hm
  ·obtain⟨j,hj,rfl⟩:=UY hm
   cases e
  ·have h:=(M1 hA).2 x (Zo hx)
   unfold Tr at h;simp only[Zc]at h;obtain⟨t,ht,ho⟩:=yo _ _ _ h.2.2 z hm;rw[ht]at e;injection e with e1 e2
   subst e1 e2;exact⟨.inr (Int.natCast_nonneg i),ho⟩
 rcases Zn.1 hm with hm|hm
 ·obtain⟨i,x,hx,hm⟩:=WM _ z _ 0 hm
  rcases List.mem_cons.1 hm with rfl|hm
  ·cases e
  rcases Zn.1 hm with hm|hm
  ·obtain⟨j,hj,rfl⟩:=UY hm
   cases e
  rcases Zn.1 hm with hm|hm
  ·obtain⟨j,hj,rfl⟩:=UY hm
   cases e
  ·obtain rfl:=List.mem_singleton.1 hm
   cases e
 rcases Zn.1 hm with hm|hm
 ·obtain⟨t,ht,ho⟩:=yo _ _ _ hC z hm
  rw[ht]at e;injection e with e1 e2
  subst e1 e2;exact⟨.inl rfl,ho⟩
 ·obtain⟨i,x,hx,hm⟩:=WM _ z _ 0 hm
  obtain rfl:=List.mem_singleton.1 hm;cases e
theorem Bb{α:Type}(q:α→Bool):∀(l:List α) (k j:Nat) (y:α),l[j]?=some y→q y=true→(k:Int)≤YL q l k∧YL q l k≤((k+j:Nat):Int)
 | [],k,j,y,h,_=>by simp at h
 | x :: l,k,j,y,h,hy=>by
  rw[YL];split
  ·omega
  ·next hn =>
   cases j with
   | zero =>
    obtain rfl:x=y:=asN;exact absurd hy hn
   | succ j =>
    have:=Bb q l (k+1) j y asN hy;omega
theorem yf{l:List ByteArray}{j:Nat}{y:ByteArray}(h:l[j]?=some y):(if XT l y=(j:Int) then (0:Int) else 8)=if XT l y<(j:Int) then 8 else 0:=by
 have h1:=Bb (fun x:ByteArray=>x.toList==y.toList) l 0 j y h asD;have h2:XT l y≤(j:Int):=by rw[show XT l y=YL (fun x:ByteArray=>x.toList==y.toList) l 0 from rfl];omega
 by_cases e:XT l y=(j:Int)
 ·rw[if_pos e,if_neg asB]
 ·rw[if_neg e,if_pos asB]
theorem bH{e:Ex}(h:e.same Vl=true)(f:Ex→Bool)(hf:f e=true):e.there f=true:=by
 rw[Ex.same_eq,Zc]at h;obtain⟨-,h2⟩:=h;have:e.args=[]:=by
  cases ha:e.args with
  | nil=>rfl
  | cons x l =>
   rw[ha]at h2;simp[Vl,Ex.args,Ex.sames]at h2
 rw[Ex.there_eq,this,hf];rfl
theorem bG{e:Ex}(h:e.same Vl=true):e.op=0:=by
 rw[Ex.same_eq,Zc]at h;obtain⟨h1,-⟩:=h;unfold Ex.top at h1;simp only[Zc,beq_iff_eq]at h1;exact h1.1.1.1.1.1
theorem iZ(p:Pr)(hB:Vr p=true)(a:Nat)(x:Sa)(hx:p.states.l[a]?=some x):(if (if (x.tX9.toList==([]:List UInt8))=true then x.keys.l.all (Ex.there (YP p (-1))) else (W9 p.states.l x.tX9).2) then (0:Int) else 7)=PD p x:=by
 have h1:VZ x=true:=by
  unfold Vr at hB;simp only[Zc]at hB;exact (M1 hB.2.2.1).2 x (Zo hx)
 unfold VZ at h1;simp only[Zc]at h1;have h2:=h1.2.2;unfold Py at h2;unfold PD;by_cases e:(x.tX9.toList==([]:List UInt8))=true
 ·rw[if_pos ate]at h2
  simp only[Zc]at h2;have h3:=(M1 h2.1).1.1;rw[if_pos e,if_neg (show ¬x.keys.l.length=0 by omega)]
 ·rw[if_neg ate]at h2
  simp only[Zc]at h2;have h3:x.keys.l.length=0:=by simpa using h2.2.1
  rw[if_neg e,if_pos h3]
theorem ag(p:Pr)(a:Int)(s:St)(ha:a=-1∨0≤a)(ho:s.one=true):YU p (.st a s)=Yu p (.st a s):=by
 have h4:s.kind=4→s.e.there (YP p a)=true:=by
  intro YQ;unfold St.one at ho;rw[YQ]at ho;simp only[Zc]at ho;have h:=ho.2.2;rw[if_neg asE]at h;exact bH h _ (by unfold YP;rw[bG h];simp)
 show (if s.kind=3∧0≤a then (9:Int) else if sB p s.kind s.head s.name (s.e.there (YP p a)) then 0 else 7)=PE p a s.kind s.head s.name (if s.e.there (YP p a) then 0 else 7)
 unfold PE sB;by_cases ZL:s.kind=1
 ·rw[if_neg asB,if_pos ZL,if_pos ZL]
  by_cases t:Sn p s.head s.name=-1
  ·rw[if_pos t,if_pos t];rfl
  ·rw[if_neg t,if_neg t]
 rw[if_neg ZL,if_neg ZL];by_cases Ys:s.kind=3
 ·rw[if_pos Ys,if_pos Ys]
  rcases ha with rfl|ha
  ·rw[if_neg asB,if_pos rfl]
   by_cases t:Tp p.tables.l s.name=-1
   ·rw[if_pos t,t];rfl
   ·rw[if_neg t,if_pos (by rw[bne_iff_ne];exact t)]
  ·rw[if_pos ⟨Ys,ha⟩,if_neg asB]
 rw[if_neg Ys,if_neg Ys,if_neg (fun h=>Ys h.1)];by_cases Vz:s.kind=6∨s.kind=7
 ·rw[if_pos Vz,if_pos Vz]
  by_cases t:YF p.headers.l s.head=-1
  ·rw[if_pos t,t];rfl
  ·rw[if_neg t,if_pos (by rw[bne_iff_ne];exact t)]
 rw[if_neg Vz,if_neg Vz];by_cases YQ:s.kind=4
 ·rw[if_pos YQ,h4 YQ]
 ·rw[if_neg YQ]
theorem abi(p:Pr)(w:World)(ZF:p.In w)(hz:p.sz≤1048576)(hB:Vr p=true)(z:It)(hm:z∈Yh p)(hd:Hx p z):YU p z=Yu p z:=by
 have VS:=PZ p w ZF hz z hm;cases VS with
 | stmt a s hs YB =>
  obtain⟨h1,h2⟩:=ab p hB _ hm a s rfl;exact ag p a s h1 h2
 | header a x hx=>simp[YU,WG,Yu,Wm,Mo,hx]
 | field a b x y hx hy=>simp[YU,WG,Yu,Wm,hx,hy]
 | mta a x hx=>simp[YU,WG,Yu,Wm,hx]
 | state a x hx=>simp[YU,WG,Yu,Wm,hx]
 | take a b x y hx hy =>
  have e1:YU p (.num 5 a b)=(if (YF p.headers.l y !=-1) then 0 else 7):=ata;have e2:Yu p (.num 5 a b)=(if YF p.headers.l y=-1 then 7 else 0):=by simp only[Yu,Wm,hx,hy];rfl
  rw[e1,e2];by_cases t:YF p.headers.l y=-1
  ·rw[if_pos t,t];rfl
  ·rw[if_neg t,if_pos (by rw[bne_iff_ne];exact t)]
 | next a x hx =>
  have e1:YU p (.num 6 a 0)=(if (if (x.tX9.toList==([]:List UInt8))=true then x.keys.l.all (Ex.there (YP p (-1))) else (W9 p.states.l x.tX9).2) then 0 else 7):=asZ;have e2:Yu p (.num 6 a 0)=PD p x:=by simp only[Yu,Wm,hx];rfl
  rw[e1,e2];exact iZ p hB a x hx
 | case_ a b x y hx hy=>simp[YU,WG,Yu,Wm,hx,hy]
 | action a x hx=>simp[YU,WG,Yu,Wm,hx]
 | param a b x y hx hy=>simp[YU,WG,Yu,Wm,hx,hy]
 | table a x hx=>simp[YU,WG,Yu,Wm,hx]
 | key a b x y hx hy=>simp[YU,WG,Yu,Wm,hx,hy]
 | listed a b x y hx hy =>
  have e1:YU p (.num 13 a b)=(if XD p.actions.l y=-1 then 7 else if XT x.actions.l y<(b:Int) then 8 else 0):=ata;have e2:Yu p (.num 13 a b)=(if XD p.actions.l y=-1 then 7 else if XT x.actions.l y=(b:Int) then 0 else 8):=by simp only[Yu,Wm,hx,hy];rfl
  rw[e1,e2,yf hy]
 | emit a x hx =>
  have e1:YU p (.num 15 a 0)=(if YF p.headers.l x=-1 then 7 else if XT p.emit.l x<(a:Int) then 8 else 0):=asZ;have e2:Yu p (.num 15 a 0)=(if YF p.headers.l x=-1 then 7 else if XT p.emit.l x=(a:Int) then 0 else 8):=by simp only[Yu,Wm,hx];rfl
  rw[e1,e2,yf hx]
 | dflt a x hx =>
  have e1:YU p (.num 14 a 0)=(if XT x.actions.l x.dflt.name=-1∨XD p.actions.l x.dflt.name=-1 then 7 else (match p.actions.l[(XD p.actions.l x.dflt.name).toNat]? with|some z=>(if x.dflt.args.l.length<z.params.l.length then 13 else if z.params.l.length<x.dflt.args.l.length then 5 else 0)|none=>0)):=asZ;have e2:Yu p (.num 14 a 0)=SU x.actions.l x.dflt.name x.dflt.args.l.length (match p.actions.l[(XD p.actions.l x.dflt.name).toNat]? with|some z=>z.params.l.length|none=>0):=by simp only[Yu,Wm,hx];rfl
  rw[e1,e2];unfold SU;by_cases t:XT x.actions.l x.dflt.name=-1
  ·rw[if_pos (.inl t),if_pos t]
  ·have t2:=hd a x rfl hx t
   obtain⟨k,y,hk,hy⟩:=Kt t2;rw[if_neg (fun h=>h.elim t t2),if_neg t,hk,Int.toNat_natCast,hy]
end Go.Proofs.YtknmeggfokpbjaaGreat

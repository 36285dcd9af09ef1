/-
  WHAT IS PROVED HERE: a part of the proof (made narrower and merged by program; the parts: Loa Lob SE SH).
-/
import Derived.Deep.CutRange
import Derived.Deep.RegionHeld3
import Derived.Test.YtheaknidbcbneaaGreatM2
set_option maxRecDepth 100000
set_option maxHeartbeats 8000000
set_option linter.all false
namespace Go.Proofs.YtheaknidbcbneaaGreat
open Go.RowKit Go.Proofs.Tryz
open Below renaming refl→Zc
open Bool renaming and_eq_true→Zd
open List renaming getElem?_eq_getElem→Zi
open Nat renaming le_refl→Zp
open Go.Proofs.Tryz renaming prog→Zr
open Go.ChangeShapes Go.WideShapes Go.RowKit Go.Deep
def Z8(k:IntKind)(n:Int):List Value:=[.int k n]
def Yg(k:IntKind)(n:Int):Prop:=(Lit.int k n).wf=true
def YL(_:Int):Nat:=1
def YY{α:Type}(s:Sl α):List Value:=[s.v]
def Xk{α:Type}(f:α→Nat)(s:Sl α):Nat:=s.size f+1
section
variable {H:Type} {enc:TypeId × Value→H} {w:World} {base:Nat} {spare:Nat→Bool} {ZN:Bool}
theorem Ts{fuel:Nat}:Wj enc Zr w base spare ZN fuel 3 (Z8 .i64) (Yg .i64) YL:=by
 intro cs x h;obtain⟨v,e,q,hs⟩:=DataW.trod_int Tryz.underlying3 h;exact⟨v,e,hs,by rw[q];simp[Rows.uptoBulk,YL]⟩
theorem I7{fuel:Nat}:Wj enc Zr w base spare ZN fuel 5 (Z8 .u8) (Yg .u8) YL:=by
 intro cs x h;obtain⟨v,e,q,hs⟩:=DataW.trod_int Tryz.underlying5 h;exact⟨v,e,hs,by rw[q];simp[Rows.uptoBulk,YL]⟩
end
structure Nu where
 h:Int
 l:Int
def Nu.cells(x:Nu):List Value:=[.int .u64 x.h,.int .u64 x.l]
structure Nu.In (x:Nu):Prop where
 h:(Lit.int .u64 x.h).wf=true
 l:(Lit.int .u64 x.l).wf=true
def Nu.sz(_:Nu):Nat:=1
theorem So:Zr.cellsOf 60=2:=by kernel_rfl
section
variable {H:Type} {enc:TypeId × Value→H} {w:World} {base:Nat} {spare:Nat→Bool} {ZN:Bool}
theorem Rg{fuel:Nat}:Wj enc Zr w base spare ZN fuel 60 Nu.cells Nu.In Nu.sz:=by
 intro cs x h;obtain⟨xs,n,rfl,rfl,Yr,Xd,hf⟩:=DataW.trod_struct (P:=Zr) Tryz.underlying60 h;have XM:cs.length=2:=Yr.trans So;clear Yr h;match cs,XM with
 | [c0,c1],_ =>
  match xs,Xd with
  | [x0,x1],_ =>
   have h0:DataW.trod enc Zr w base spare ZN n 58 [c0]=some x0:=by simpa [Q6]using hf 0 _ rfl
   obtain⟨v0,e0,q0,w0⟩:=DataW.trod_int Tryz.underlying58 h0;obtain rfl:=List.head_eq_of_cons_eq e0;have h1:DataW.trod enc Zr w base spare ZN n 58 [c1]=some x1:=by simpa [Q6]using hf 1 _ rfl
   obtain⟨v1,e1,q1,w1⟩:=DataW.trod_int Tryz.underlying58 h1;obtain rfl:=List.head_eq_of_cons_eq e1;refine⟨⟨v0,v1⟩,rfl,⟨w0,w1⟩,?_⟩;simp only[List.map_cons,List.map_nil,Rows.uptoBulk,Rows.uptoBulkAll,Nu.sz];omega
end
structure Nd where
 op:Int
 w:Int
 a:Int
 b:Int
 v:Nu
def Nd.cells(x:Nd):List Value:=[.int .u8 x.op,.int .i64 x.w,.int .i64 x.a,.int .i64 x.b,.int .u64 x.v.h,.int .u64 x.v.l]
structure Nd.In (x:Nd):Prop where
 op:(Lit.int .u8 x.op).wf=true
 w:(Lit.int .i64 x.w).wf=true
 a:(Lit.int .i64 x.a).wf=true
 b:(Lit.int .i64 x.b).wf=true
 v:Nu.In x.v
def Nd.sz(x:Nd):Nat:=1+Nu.sz x.v
theorem S1:Zr.cellsOf 79=6:=by kernel_rfl
section
variable {H:Type} {enc:TypeId × Value→H} {w:World} {base:Nat} {spare:Nat→Bool} {ZN:Bool}
theorem Qb{fuel:Nat}:Wj enc Zr w base spare ZN fuel 79 Nd.cells Nd.In Nd.sz:=by
 intro cs x h;obtain⟨xs,n,rfl,rfl,Yr,Xd,hf⟩:=DataW.trod_struct (P:=Zr) Tryz.underlying79 h;have XM:cs.length=6:=Yr.trans S1;clear Yr h;match cs,XM with
 | [c0,c1,c2,c3,c4,c5],_ =>
  match xs,Xd with
  | [x0,x1,x2,x3,x4],_ =>
   have h0:DataW.trod enc Zr w base spare ZN n 5 [c0]=some x0:=by simpa [RH]using hf 0 _ rfl
   obtain⟨v0,e0,q0,w0⟩:=DataW.trod_int Tryz.underlying5 h0;obtain rfl:=List.head_eq_of_cons_eq e0;have h1:DataW.trod enc Zr w base spare ZN n 3 [c1]=some x1:=by simpa [cI]using hf 1 _ rfl
   obtain⟨v1,e1,q1,w1⟩:=DataW.trod_int Tryz.underlying3 h1;obtain rfl:=List.head_eq_of_cons_eq e1;have h2:DataW.trod enc Zr w base spare ZN n 3 [c2]=some x2:=by simpa [cI]using hf 2 _ rfl
   obtain⟨v2,e2,q2,w2⟩:=DataW.trod_int Tryz.underlying3 h2;obtain rfl:=List.head_eq_of_cons_eq e2;have h3:DataW.trod enc Zr w base spare ZN n 3 [c3]=some x3:=by simpa [cI]using hf 3 _ rfl
   obtain⟨v3,e3,q3,w3⟩:=DataW.trod_int Tryz.underlying3 h3;obtain rfl:=List.head_eq_of_cons_eq e3;have h4:DataW.trod enc Zr w base spare ZN n 60 [c4,c5]=some x4:=by simpa [So]using hf 4 _ rfl
   obtain⟨v4,e4,w4,z4⟩:=Rg _ _ h4;simp only[Nu.cells,List.cons.injEq,and_true]at e4;obtain⟨rfl,rfl⟩:=e4;refine⟨⟨v0,v1,v2,v3,v4⟩,rfl,⟨w0,w1,w2,w3,w4⟩,?_⟩;simp only[List.map_cons,List.map_nil,Rows.uptoBulk,Rows.uptoBulkAll,Nd.sz];omega
end
theorem QY:Zr.cellsOf 35=1:=by kernel_rfl
section
variable {H:Type} {enc:TypeId × Value→H} {w:World} {base:Nat} {spare:Nat→Bool} {ZN:Bool}
theorem P4{fuel:Nat}:Wj enc Zr w base spare ZN fuel 35 YY (fun s:Sl Nd=>s.In w 6 Nd.cells Nd.In) (Xk Nd.sz):=by
 intro cs x h;obtain⟨s,e,q,hs⟩:=Xj (cells:=Nd.cells) (In:=Nd.In) (size:=Nd.sz) Tryz.underlying35 S1 (fun _ _=>Qb) h;exact⟨s,e,q,hs⟩
end
theorem Md:Zr.cellsOf 23=1:=by kernel_rfl
section
variable {H:Type} {enc:TypeId × Value→H} {w:World} {base:Nat} {spare:Nat→Bool} {ZN:Bool}
theorem IV{fuel:Nat}:Wj enc Zr w base spare ZN fuel 23 YY (fun s:Sl Int=>s.In w 1 (Z8 .i64) (Yg .i64)) (Xk YL):=by
 intro cs x h;obtain⟨s,e,q,hs⟩:=Xj (cells:=(Z8 .i64)) (In:=(Yg .i64)) (size:=YL) Tryz.underlying23 cI (fun _ _=>Ts) h;exact⟨s,e,q,hs⟩
end
theorem Mp:Zr.cellsOf 28=1:=by kernel_rfl
section
variable {H:Type} {enc:TypeId × Value→H} {w:World} {base:Nat} {spare:Nat→Bool} {ZN:Bool}
theorem I0{fuel:Nat}:Wj enc Zr w base spare ZN fuel 28 YY (fun s:Sl ByteArray=>s.In w 1 WS WT) (Xk XH):=by
 intro cs x h;obtain⟨s,e,q,hs⟩:=Xj (cells:=WS) (In:=WT) (size:=XH) Tryz.underlying28 cS (fun _ _=>SL) h;exact⟨s,e,q,hs⟩
end
structure Pt where
 v:Nu
 m:Nu
def Pt.cells(x:Pt):List Value:=[.int .u64 x.v.h,.int .u64 x.v.l,.int .u64 x.m.h,.int .u64 x.m.l]
structure Pt.In (x:Pt):Prop where
 v:Nu.In x.v
 m:Nu.In x.m
def Pt.sz(x:Pt):Nat:=1+Nu.sz x.v+Nu.sz x.m
theorem Q0:Zr.cellsOf 132=4:=by kernel_rfl
section
variable {H:Type} {enc:TypeId × Value→H} {w:World} {base:Nat} {spare:Nat→Bool} {ZN:Bool}
theorem IY{fuel:Nat}:Wj enc Zr w base spare ZN fuel 132 Pt.cells Pt.In Pt.sz:=by
 intro cs x h;obtain⟨xs,n,rfl,rfl,Yr,Xd,hf⟩:=DataW.trod_struct (P:=Zr) Tryz.underlying132 h;have XM:cs.length=4:=Yr.trans Q0;clear Yr h;match cs,XM with
 | [c0,c1,c2,c3],_ =>
  match xs,Xd with
  | [x0,x1],_ =>
   have h0:DataW.trod enc Zr w base spare ZN n 60 [c0,c1]=some x0:=by simpa [So]using hf 0 _ rfl
   obtain⟨v0,e0,w0,z0⟩:=Rg _ _ h0;simp only[Nu.cells,List.cons.injEq,and_true]at e0;obtain⟨rfl,rfl⟩:=e0;have h1:DataW.trod enc Zr w base spare ZN n 60 [c2,c3]=some x1:=by simpa [So]using hf 1 _ rfl
   obtain⟨v1,e1,w1,z1⟩:=Rg _ _ h1;simp only[Nu.cells,List.cons.injEq,and_true]at e1;obtain⟨rfl,rfl⟩:=e1;refine⟨⟨v0,v1⟩,rfl,⟨w0,w1⟩,?_⟩;simp only[List.map_cons,List.map_nil,Rows.uptoBulk,Rows.uptoBulkAll,Pt.sz];omega
end
structure Br where
 pats:Sl Pt
 dest:Int
def Br.cells(x:Br):List Value:=[x.pats.v,.int .i64 x.dest]
structure Br.In (w:World) (x:Br):Prop where
 pats:x.pats.In w 4 Pt.cells Pt.In
 dest:(Lit.int .i64 x.dest).wf=true
def Br.sz(x:Br):Nat:=1+x.pats.size Pt.sz
theorem Br.In.plus{w:World}{s:Br}(h:s.In w)(x:ZA):s.In (plus w x):=⟨h.pats.plus (fun _ a=>a) x,h.dest⟩
theorem QX:Zr.cellsOf 52=2:=by kernel_rfl
theorem Ml:Zr.cellsOf 50=1:=by kernel_rfl
section
variable {H:Type} {enc:TypeId × Value→H} {w:World} {base:Nat} {spare:Nat→Bool} {ZN:Bool}
theorem IU{fuel:Nat}:Wj enc Zr w base spare ZN fuel 52 Br.cells (Br.In w) Br.sz:=by
 intro cs x h;obtain⟨xs,n,rfl,rfl,Yr,Xd,hf⟩:=DataW.trod_struct (P:=Zr) Tryz.underlying52 h;have XM:cs.length=2:=Yr.trans QX;clear Yr h;match cs,XM with
 | [c0,c1],_ =>
  match xs,Xd with
  | [x0,x1],_ =>
   have h0:DataW.trod enc Zr w base spare ZN n 50 [c0]=some x0:=by simpa [Ml]using hf 0 _ rfl
   obtain⟨v0,e0,w0,z0⟩:=Xj (cells:=Pt.cells) (In:=Pt.In) (size:=Pt.sz) Tryz.underlying50 Q0 (fun _ _=>IY) h0;obtain rfl:=List.head_eq_of_cons_eq e0;have h1:DataW.trod enc Zr w base spare ZN n 3 [c1]=some x1:=by simpa [cI]using hf 1 _ rfl
   obtain⟨v1,e1,q1,w1⟩:=DataW.trod_int Tryz.underlying3 h1;obtain rfl:=List.head_eq_of_cons_eq e1;refine⟨⟨v0,v1⟩,rfl,⟨w0,w1⟩,?_⟩;simp only[List.map_cons,List.map_nil,Rows.uptoBulk,Rows.uptoBulkAll,Br.sz];omega
end
structure Sp where
 takes:Sl Int
 keys:Sl (Sl Nd)
 branches:Sl Br
 dest:Int
def Sp.cells(x:Sp):List Value:=[x.takes.v,x.keys.v,x.branches.v,.int .i64 x.dest]
structure Sp.In (w:World) (x:Sp):Prop where
 takes:x.takes.In w 1 (Z8 .i64) (Yg .i64)
 keys:x.keys.In w 1 YY (fun s:Sl Nd=>s.In w 6 Nd.cells Nd.In)
 branches:x.branches.In w 2 Br.cells (Br.In w)
 dest:(Lit.int .i64 x.dest).wf=true
def Sp.sz(x:Sp):Nat:=1+x.takes.size YL+x.keys.size (Xk Nd.sz)+x.branches.size Br.sz
theorem Sp.In.plus{w:World}{s:Sp}(h:s.In w)(x:ZA):s.In (plus w x):=⟨h.takes.plus (fun _ a=>a) x,h.keys.plus (fun _ a=>a.plus (fun _ a=>a) x) x,h.branches.plus (fun _ a=>a.plus x) x,h.dest⟩
theorem Q2:Zr.cellsOf 49=4:=by kernel_rfl
theorem Sq:Zr.cellsOf 23=1:=by kernel_rfl
theorem Q3:Zr.cellsOf 46=1:=by kernel_rfl
theorem Mh:Zr.cellsOf 47=1:=by kernel_rfl
section
variable {H:Type} {enc:TypeId × Value→H} {w:World} {base:Nat} {spare:Nat→Bool} {ZN:Bool}
theorem IZ{fuel:Nat}:Wj enc Zr w base spare ZN fuel 49 Sp.cells (Sp.In w) Sp.sz:=by
 intro cs x h;obtain⟨xs,n,rfl,rfl,Yr,Xd,hf⟩:=DataW.trod_struct (P:=Zr) Tryz.underlying49 h;have XM:cs.length=4:=Yr.trans Q2;clear Yr h;match cs,XM with
 | [c0,c1,c2,c3],_ =>
  match xs,Xd with
  | [x0,x1,x2,x3],_ =>
   have h0:DataW.trod enc Zr w base spare ZN n 23 [c0]=some x0:=by simpa [Sq]using hf 0 _ rfl
   obtain⟨v0,e0,w0,z0⟩:=Xj (cells:=(Z8 .i64)) (In:=(Yg .i64)) (size:=YL) Tryz.underlying23 cI (fun _ _=>Ts) h0;obtain rfl:=List.head_eq_of_cons_eq e0;have h1:DataW.trod enc Zr w base spare ZN n 46 [c1]=some x1:=by simpa [Q3]using hf 1 _ rfl
   obtain⟨v1,e1,w1,z1⟩:=Xj (cells:=YY) (In:=(fun s:Sl Nd=>s.In w 6 Nd.cells Nd.In)) (size:=(Xk Nd.sz)) Tryz.underlying46 QY (fun _ _=>P4) h1;obtain rfl:=List.head_eq_of_cons_eq e1;have h2:DataW.trod enc Zr w base spare ZN n 47 [c2]=some x2:=by simpa [Mh]using hf 2 _ rfl
   obtain⟨v2,e2,w2,z2⟩:=Xj (cells:=Br.cells) (In:=(Br.In w)) (size:=Br.sz) Tryz.underlying47 QX (fun _ _=>IU) h2;obtain rfl:=List.head_eq_of_cons_eq e2;have h3:DataW.trod enc Zr w base spare ZN n 3 [c3]=some x3:=by simpa [cI]using hf 3 _ rfl
   obtain⟨v3,e3,q3,w3⟩:=DataW.trod_int Tryz.underlying3 h3;obtain rfl:=List.head_eq_of_cons_eq e3;refine⟨⟨v0,v1,v2,v3⟩,rfl,⟨w0,w1,w2,w3⟩,?_⟩;simp only[List.map_cons,List.map_nil,Rows.uptoBulk,Rows.uptoBulkAll,Sp.sz];omega
end
structure ZZ where
 kind:Int
 a:Int
 b:Int
 e:Sl Nd
 dest:Int
def ZZ.cells(x:ZZ):List Value:=[.int .u8 x.kind,.int .i64 x.a,.int .i64 x.b,x.e.v,.int .i64 x.dest]
structure ZZ.In (w:World) (x:ZZ):Prop where
 kind:(Lit.int .u8 x.kind).wf=true
 a:(Lit.int .i64 x.a).wf=true
 b:(Lit.int .i64 x.b).wf=true
 e:x.e.In w 6 Nd.cells Nd.In
 dest:(Lit.int .i64 x.dest).wf=true
def ZZ.sz(x:ZZ):Nat:=1+x.e.size Nd.sz
theorem ZZ.In.plus{w:World}{s:ZZ}(h:s.In w)(x:ZA):s.In (plus w x):=⟨h.kind,h.a,h.b,h.e.plus (fun _ a=>a) x,h.dest⟩
theorem RG:Zr.cellsOf 99=5:=by kernel_rfl
theorem Mj:Zr.cellsOf 35=1:=by kernel_rfl
section
variable {H:Type} {enc:TypeId × Value→H} {w:World} {base:Nat} {spare:Nat→Bool} {ZN:Bool}
theorem P5{fuel:Nat}:Wj enc Zr w base spare ZN fuel 99 ZZ.cells (ZZ.In w) ZZ.sz:=by
 intro cs x h;obtain⟨xs,n,rfl,rfl,Yr,Xd,hf⟩:=DataW.trod_struct (P:=Zr) Tryz.underlying99 h;have XM:cs.length=5:=Yr.trans RG;clear Yr h;match cs,XM with
 | [c0,c1,c2,c3,c4],_ =>
  match xs,Xd with
  | [x0,x1,x2,x3,x4],_ =>
   have h0:DataW.trod enc Zr w base spare ZN n 5 [c0]=some x0:=by simpa [RH]using hf 0 _ rfl
   obtain⟨v0,e0,q0,w0⟩:=DataW.trod_int Tryz.underlying5 h0;obtain rfl:=List.head_eq_of_cons_eq e0;have h1:DataW.trod enc Zr w base spare ZN n 3 [c1]=some x1:=by simpa [cI]using hf 1 _ rfl
   obtain⟨v1,e1,q1,w1⟩:=DataW.trod_int Tryz.underlying3 h1;obtain rfl:=List.head_eq_of_cons_eq e1;have h2:DataW.trod enc Zr w base spare ZN n 3 [c2]=some x2:=by simpa [cI]using hf 2 _ rfl
   obtain⟨v2,e2,q2,w2⟩:=DataW.trod_int Tryz.underlying3 h2;obtain rfl:=List.head_eq_of_cons_eq e2;have h3:DataW.trod enc Zr w base spare ZN n 35 [c3]=some x3:=by simpa [Mj]using hf 3 _ rfl
   obtain⟨v3,e3,w3,z3⟩:=Xj (cells:=Nd.cells) (In:=Nd.In) (size:=Nd.sz) Tryz.underlying35 S1 (fun _ _=>Qb) h3;obtain rfl:=List.head_eq_of_cons_eq e3;have h4:DataW.trod enc Zr w base spare ZN n 3 [c4]=some x4:=by simpa [cI]using hf 4 _ rfl
   obtain⟨v4,e4,q4,w4⟩:=DataW.trod_int Tryz.underlying3 h4;obtain rfl:=List.head_eq_of_cons_eq e4;refine⟨⟨v0,v1,v2,v3,v4⟩,rfl,⟨w0,w1,w2,w3,w4⟩,?_⟩;simp only[List.map_cons,List.map_nil,Rows.uptoBulk,Rows.uptoBulkAll,ZZ.sz];omega
end
structure At where
 params:Sl Int
 body:Sl ZZ
def At.cells(x:At):List Value:=[x.params.v,x.body.v]
structure At.In (w:World) (x:At):Prop where
 params:x.params.In w 1 (Z8 .i64) (Yg .i64)
 body:x.body.In w 5 ZZ.cells (ZZ.In w)
def At.sz(x:At):Nat:=1+x.params.size YL+x.body.size ZZ.sz
theorem At.In.plus{w:World}{s:At}(h:s.In w)(x:ZA):s.In (plus w x):=⟨h.params.plus (fun _ a=>a) x,h.body.plus (fun _ a=>a.plus x) x⟩
theorem QW:Zr.cellsOf 54=2:=by kernel_rfl
theorem Q4:Zr.cellsOf 27=1:=by kernel_rfl
section
variable {H:Type} {enc:TypeId × Value→H} {w:World} {base:Nat} {spare:Nat→Bool} {ZN:Bool}
theorem IT{fuel:Nat}:Wj enc Zr w base spare ZN fuel 54 At.cells (At.In w) At.sz:=by
 intro cs x h;obtain⟨xs,n,rfl,rfl,Yr,Xd,hf⟩:=DataW.trod_struct (P:=Zr) Tryz.underlying54 h;have XM:cs.length=2:=Yr.trans QW;clear Yr h;match cs,XM with
 | [c0,c1],_ =>
  match xs,Xd with
  | [x0,x1],_ =>
   have h0:DataW.trod enc Zr w base spare ZN n 23 [c0]=some x0:=by simpa [Sq]using hf 0 _ rfl
   obtain⟨v0,e0,w0,z0⟩:=Xj (cells:=(Z8 .i64)) (In:=(Yg .i64)) (size:=YL) Tryz.underlying23 cI (fun _ _=>Ts) h0;obtain rfl:=List.head_eq_of_cons_eq e0;have h1:DataW.trod enc Zr w base spare ZN n 27 [c1]=some x1:=by simpa [Q4]using hf 1 _ rfl
   obtain⟨v1,e1,w1,z1⟩:=Xj (cells:=ZZ.cells) (In:=(ZZ.In w)) (size:=ZZ.sz) Tryz.underlying27 RG (fun _ _=>P5) h1;obtain rfl:=List.head_eq_of_cons_eq e1;refine⟨⟨v0,v1⟩,rfl,⟨w0,w1⟩,?_⟩;simp only[List.map_cons,List.map_nil,Rows.uptoBulk,Rows.uptoBulkAll,At.sz];omega
end
structure Ru where
 act:Int
 args:Sl Nu
def Ru.cells(x:Ru):List Value:=[.int .i64 x.act,x.args.v]
structure Ru.In (w:World) (x:Ru):Prop where
 act:(Lit.int .i64 x.act).wf=true
 args:x.args.In w 2 Nu.cells Nu.In
def Ru.sz(x:Ru):Nat:=1+x.args.size Nu.sz
theorem Ru.In.plus{w:World}{s:Ru}(h:s.In w)(x:ZA):s.In (plus w x):=⟨h.act,h.args.plus (fun _ a=>a) x⟩
theorem Q1:Zr.cellsOf 38=2:=by kernel_rfl
theorem Mk:Zr.cellsOf 36=1:=by kernel_rfl
section
variable {H:Type} {enc:TypeId × Value→H} {w:World} {base:Nat} {spare:Nat→Bool} {ZN:Bool}
theorem P6{fuel:Nat}:Wj enc Zr w base spare ZN fuel 38 Ru.cells (Ru.In w) Ru.sz:=by
 intro cs x h;obtain⟨xs,n,rfl,rfl,Yr,Xd,hf⟩:=DataW.trod_struct (P:=Zr) Tryz.underlying38 h;have XM:cs.length=2:=Yr.trans Q1;clear Yr h;match cs,XM with
 | [c0,c1],_ =>
  match xs,Xd with
  | [x0,x1],_ =>
   have h0:DataW.trod enc Zr w base spare ZN n 3 [c0]=some x0:=by simpa [cI]using hf 0 _ rfl
   obtain⟨v0,e0,q0,w0⟩:=DataW.trod_int Tryz.underlying3 h0;obtain rfl:=List.head_eq_of_cons_eq e0;have h1:DataW.trod enc Zr w base spare ZN n 36 [c1]=some x1:=by simpa [Mk]using hf 1 _ rfl
   obtain⟨v1,e1,w1,z1⟩:=Xj (cells:=Nu.cells) (In:=Nu.In) (size:=Nu.sz) Tryz.underlying36 So (fun _ _=>Rg) h1;obtain rfl:=List.head_eq_of_cons_eq e1;refine⟨⟨v0,v1⟩,rfl,⟨w0,w1⟩,?_⟩;simp only[List.map_cons,List.map_nil,Rows.uptoBulk,Rows.uptoBulkAll,Ru.sz];omega
end
structure Tb where
 keys:Sl (Sl Nd)
 kinds:Sl Int
 acts:Sl Int
 dflt:Ru
def Tb.cells(x:Tb):List Value:=[x.keys.v,x.kinds.v,x.acts.v,.int .i64 x.dflt.act,x.dflt.args.v]
structure Tb.In (w:World) (x:Tb):Prop where
 keys:x.keys.In w 1 YY (fun s:Sl Nd=>s.In w 6 Nd.cells Nd.In)
 kinds:x.kinds.In w 1 (Z8 .u8) (Yg .u8)
 acts:x.acts.In w 1 (Z8 .i64) (Yg .i64)
 dflt:(Ru.In w) x.dflt
def Tb.sz(x:Tb):Nat:=1+x.keys.size (Xk Nd.sz)+x.kinds.size YL+x.acts.size YL+Ru.sz x.dflt
theorem Tb.In.plus{w:World}{s:Tb}(h:s.In w)(x:ZA):s.In (plus w x):=⟨h.keys.plus (fun _ a=>a.plus (fun _ a=>a) x) x,h.kinds.plus (fun _ a=>a) x,h.acts.plus (fun _ a=>a) x,h.dflt.plus x⟩
theorem Q5:Zr.cellsOf 57=5:=by kernel_rfl
theorem Mg:Zr.cellsOf 55=1:=by kernel_rfl
section
variable {H:Type} {enc:TypeId × Value→H} {w:World} {base:Nat} {spare:Nat→Bool} {ZN:Bool}
theorem I5{fuel:Nat}:Wj enc Zr w base spare ZN fuel 57 Tb.cells (Tb.In w) Tb.sz:=by
 intro cs x h;obtain⟨xs,n,rfl,rfl,Yr,Xd,hf⟩:=DataW.trod_struct (P:=Zr) Tryz.underlying57 h;have XM:cs.length=5:=Yr.trans Q5;clear Yr h;match cs,XM with
 | [c0,c1,c2,c3,c4],_ =>
  match xs,Xd with
  | [x0,x1,x2,x3],_ =>
   have h0:DataW.trod enc Zr w base spare ZN n 46 [c0]=some x0:=by simpa [Q3]using hf 0 _ rfl
   obtain⟨v0,e0,w0,z0⟩:=Xj (cells:=YY) (In:=(fun s:Sl Nd=>s.In w 6 Nd.cells Nd.In)) (size:=(Xk Nd.sz)) Tryz.underlying46 QY (fun _ _=>P4) h0;obtain rfl:=List.head_eq_of_cons_eq e0;have h1:DataW.trod enc Zr w base spare ZN n 55 [c1]=some x1:=by simpa [Mg]using hf 1 _ rfl
   obtain⟨v1,e1,w1,z1⟩:=Xj (cells:=(Z8 .u8)) (In:=(Yg .u8)) (size:=YL) Tryz.underlying55 RH (fun _ _=>I7) h1;obtain rfl:=List.head_eq_of_cons_eq e1;have h2:DataW.trod enc Zr w base spare ZN n 23 [c2]=some x2:=by simpa [Sq]using hf 2 _ rfl
   obtain⟨v2,e2,w2,z2⟩:=Xj (cells:=(Z8 .i64)) (In:=(Yg .i64)) (size:=YL) Tryz.underlying23 cI (fun _ _=>Ts) h2;obtain rfl:=List.head_eq_of_cons_eq e2;have h3:DataW.trod enc Zr w base spare ZN n 38 [c3,c4]=some x3:=by simpa [Q1]using hf 3 _ rfl
   obtain⟨v3,e3,w3,z3⟩:=P6 _ _ h3;simp only[Ru.cells,List.cons.injEq,and_true]at e3;obtain⟨rfl,rfl⟩:=e3;refine⟨⟨v0,v1,v2,v3⟩,rfl,⟨w0,w1,w2,w3⟩,?_⟩;simp only[List.map_cons,List.map_nil,Rows.uptoBulk,Rows.uptoBulkAll,Tb.sz];omega
end
structure Wx where
 headers:Sl ByteArray
 fields:Sl (Sl ByteArray)
 metas:Sl ByteArray
 actions:Sl ByteArray
 tables:Sl ByteArray
def Wx.cells(x:Wx):List Value:=[x.headers.v,x.fields.v,x.metas.v,x.actions.v,x.tables.v]
structure Wx.In (w:World) (x:Wx):Prop where
 headers:x.headers.In w 1 WS WT
 fields:x.fields.In w 1 YY (fun s:Sl ByteArray=>s.In w 1 WS WT)
 metas:x.metas.In w 1 WS WT
 actions:x.actions.In w 1 WS WT
 tables:x.tables.In w 1 WS WT
def Wx.sz(x:Wx):Nat:=1+x.headers.size XH+x.fields.size (Xk XH)+x.metas.size XH+x.actions.size XH+x.tables.size XH
theorem Wx.In.plus{w:World}{s:Wx}(h:s.In w)(x:ZA):s.In (plus w x):=⟨h.headers.plus (fun _ a=>a) x,h.fields.plus (fun _ a=>a.plus (fun _ a=>a) x) x,h.metas.plus (fun _ a=>a) x,h.actions.plus (fun _ a=>a) x,h.tables.plus (fun _ a=>a) x⟩
theorem QZ:Zr.cellsOf 31=5:=by kernel_rfl
theorem S2:Zr.cellsOf 28=1:=by kernel_rfl
theorem Mn:Zr.cellsOf 29=1:=by kernel_rfl
section
variable {H:Type} {enc:TypeId × Value→H} {w:World} {base:Nat} {spare:Nat→Bool} {ZN:Bool}
theorem IW{fuel:Nat}:Wj enc Zr w base spare ZN fuel 31 Wx.cells (Wx.In w) Wx.sz:=by
 intro cs x h;obtain⟨xs,n,rfl,rfl,Yr,Xd,hf⟩:=DataW.trod_struct (P:=Zr) Tryz.underlying31 h;have XM:cs.length=5:=Yr.trans QZ;clear Yr h;match cs,XM with
 | [c0,c1,c2,c3,c4],_ =>
  match xs,Xd with
  | [x0,x1,x2,x3,x4],_ =>
   have h0:DataW.trod enc Zr w base spare ZN n 28 [c0]=some x0:=by simpa [S2]using hf 0 _ rfl
   obtain⟨v0,e0,w0,z0⟩:=Xj (cells:=WS) (In:=WT) (size:=XH) Tryz.underlying28 cS (fun _ _=>SL) h0;obtain rfl:=List.head_eq_of_cons_eq e0;have h1:DataW.trod enc Zr w base spare ZN n 29 [c1]=some x1:=by simpa [Mn]using hf 1 _ rfl
   obtain⟨v1,e1,w1,z1⟩:=Xj (cells:=YY) (In:=(fun s:Sl ByteArray=>s.In w 1 WS WT)) (size:=(Xk XH)) Tryz.underlying29 Mp (fun _ _=>I0) h1;obtain rfl:=List.head_eq_of_cons_eq e1;have h2:DataW.trod enc Zr w base spare ZN n 28 [c2]=some x2:=by simpa [S2]using hf 2 _ rfl
   obtain⟨v2,e2,w2,z2⟩:=Xj (cells:=WS) (In:=WT) (size:=XH) Tryz.underlying28 cS (fun _ _=>SL) h2;obtain rfl:=List.head_eq_of_cons_eq e2;have h3:DataW.trod enc Zr w base spare ZN n 28 [c3]=some x3:=by simpa [S2]using hf 3 _ rfl
   obtain⟨v3,e3,w3,z3⟩:=Xj (cells:=WS) (In:=WT) (size:=XH) Tryz.underlying28 cS (fun _ _=>SL) h3;obtain rfl:=List.head_eq_of_cons_eq e3;have h4:DataW.trod enc Zr w base spare ZN n 28 [c4]=some x4:=by simpa [S2]using hf 4 _ rfl
   obtain⟨v4,e4,w4,z4⟩:=Xj (cells:=WS) (In:=WT) (size:=XH) Tryz.underlying28 cS (fun _ _=>SL) h4;obtain rfl:=List.head_eq_of_cons_eq e4;refine⟨⟨v0,v1,v2,v3,v4⟩,rfl,⟨w0,w1,w2,w3,w4⟩,?_⟩;simp only[List.map_cons,List.map_nil,Rows.uptoBulk,Rows.uptoBulkAll,Wx.sz];omega
end
structure Pg where
 heads:Sl (Sl Int)
 metas:Sl Int
 steps:Sl Sp
 acts:Sl At
 tabs:Sl Tb
 control:Sl ZZ
 emit:Sl Int
 names:Wx
def Pg.cells(x:Pg):List Value:=[x.heads.v,x.metas.v,x.steps.v,x.acts.v,x.tabs.v,x.control.v,x.emit.v,x.names.headers.v,x.names.fields.v,x.names.metas.v,x.names.actions.v,x.names.tables.v]
structure Pg.In (w:World) (x:Pg):Prop where
 heads:x.heads.In w 1 YY (fun s:Sl Int=>s.In w 1 (Z8 .i64) (Yg .i64))
 metas:x.metas.In w 1 (Z8 .i64) (Yg .i64)
 steps:x.steps.In w 4 Sp.cells (Sp.In w)
 acts:x.acts.In w 2 At.cells (At.In w)
 tabs:x.tabs.In w 5 Tb.cells (Tb.In w)
 control:x.control.In w 5 ZZ.cells (ZZ.In w)
 emit:x.emit.In w 1 (Z8 .i64) (Yg .i64)
 names:(Wx.In w) x.names
def Pg.sz(x:Pg):Nat:=1+x.heads.size (Xk YL)+x.metas.size YL+x.steps.size Sp.sz+x.acts.size At.sz+x.tabs.size Tb.sz+x.control.size ZZ.sz+x.emit.size YL+Wx.sz x.names
theorem Pg.In.plus{w:World}{s:Pg}(h:s.In w)(x:ZA):s.In (plus w x):=⟨h.heads.plus (fun _ a=>a.plus (fun _ a=>a) x) x,h.metas.plus (fun _ a=>a) x,h.steps.plus (fun _ a=>a.plus x) x,h.acts.plus (fun _ a=>a.plus x) x,h.tabs.plus (fun _ a=>a.plus x) x,h.control.plus (fun _ a=>a.plus x) x,h.emit.plus (fun _ a=>a) x,h.names.plus x⟩
theorem Me:Zr.cellsOf 33=12:=by kernel_rfl
theorem Mi:Zr.cellsOf 22=1:=by kernel_rfl
theorem Mm:Zr.cellsOf 24=1:=by kernel_rfl
theorem Mf:Zr.cellsOf 25=1:=by kernel_rfl
theorem Mo:Zr.cellsOf 26=1:=by kernel_rfl
section
variable {H:Type} {enc:TypeId × Value→H} {w:World} {base:Nat} {spare:Nat→Bool} {ZN:Bool}
theorem IX{fuel:Nat}:Wj enc Zr w base spare ZN fuel 33 Pg.cells (Pg.In w) Pg.sz:=by
 intro cs x h;obtain⟨xs,n,rfl,rfl,Yr,Xd,hf⟩:=DataW.trod_struct (P:=Zr) Tryz.underlying33 h;have XM:cs.length=12:=Yr.trans Me;clear Yr h;match cs,XM with
 | [c0,c1,c2,c3,c4,c5,c6,c7,c8,c9,c10,c11],_ =>
  match xs,Xd with
  | [x0,x1,x2,x3,x4,x5,x6,x7],_ =>
   have h0:DataW.trod enc Zr w base spare ZN n 22 [c0]=some x0:=by simpa [Mi]using hf 0 _ rfl
   obtain⟨v0,e0,w0,z0⟩:=Xj (cells:=YY) (In:=(fun s:Sl Int=>s.In w 1 (Z8 .i64) (Yg .i64))) (size:=(Xk YL)) Tryz.underlying22 Md (fun _ _=>IV) h0;obtain rfl:=List.head_eq_of_cons_eq e0;have h1:DataW.trod enc Zr w base spare ZN n 23 [c1]=some x1:=by simpa [Sq]using hf 1 _ rfl
   obtain⟨v1,e1,w1,z1⟩:=Xj (cells:=(Z8 .i64)) (In:=(Yg .i64)) (size:=YL) Tryz.underlying23 cI (fun _ _=>Ts) h1;obtain rfl:=List.head_eq_of_cons_eq e1;have h2:DataW.trod enc Zr w base spare ZN n 24 [c2]=some x2:=by simpa [Mm]using hf 2 _ rfl
   obtain⟨v2,e2,w2,z2⟩:=Xj (cells:=Sp.cells) (In:=(Sp.In w)) (size:=Sp.sz) Tryz.underlying24 Q2 (fun _ _=>IZ) h2;obtain rfl:=List.head_eq_of_cons_eq e2;have h3:DataW.trod enc Zr w base spare ZN n 25 [c3]=some x3:=by simpa [Mf]using hf 3 _ rfl
   obtain⟨v3,e3,w3,z3⟩:=Xj (cells:=At.cells) (In:=(At.In w)) (size:=At.sz) Tryz.underlying25 QW (fun _ _=>IT) h3;obtain rfl:=List.head_eq_of_cons_eq e3;have h4:DataW.trod enc Zr w base spare ZN n 26 [c4]=some x4:=by simpa [Mo]using hf 4 _ rfl
   obtain⟨v4,e4,w4,z4⟩:=Xj (cells:=Tb.cells) (In:=(Tb.In w)) (size:=Tb.sz) Tryz.underlying26 Q5 (fun _ _=>I5) h4;obtain rfl:=List.head_eq_of_cons_eq e4;have h5:DataW.trod enc Zr w base spare ZN n 27 [c5]=some x5:=by simpa [Q4]using hf 5 _ rfl
   obtain⟨v5,e5,w5,z5⟩:=Xj (cells:=ZZ.cells) (In:=(ZZ.In w)) (size:=ZZ.sz) Tryz.underlying27 RG (fun _ _=>P5) h5;obtain rfl:=List.head_eq_of_cons_eq e5;have h6:DataW.trod enc Zr w base spare ZN n 23 [c6]=some x6:=by simpa [Sq]using hf 6 _ rfl
   obtain⟨v6,e6,w6,z6⟩:=Xj (cells:=(Z8 .i64)) (In:=(Yg .i64)) (size:=YL) Tryz.underlying23 cI (fun _ _=>Ts) h6;obtain rfl:=List.head_eq_of_cons_eq e6;have h7:DataW.trod enc Zr w base spare ZN n 31 [c7,c8,c9,c10,c11]=some x7:=by simpa [QZ]using hf 7 _ rfl
   obtain⟨v7,e7,w7,z7⟩:=IW _ _ h7;simp only[Wx.cells,List.cons.injEq,and_true]at e7;obtain⟨rfl,rfl,rfl,rfl,rfl⟩:=e7;refine⟨⟨v0,v1,v2,v3,v4,v5,v6,v7⟩,rfl,⟨w0,w1,w2,w3,w4,w5,w6,w7⟩,?_⟩;simp only[List.map_cons,List.map_nil,Rows.uptoBulk,Rows.uptoBulkAll,Pg.sz];omega
end
end Go.Proofs.YtheaknidbcbneaaGreat
namespace Go.Proofs.YtheaknidbcbneaaGreat
open Go.RowKit Go.Proofs.Tryz
open Below renaming refl→Zc
open Bool renaming and_eq_true→Zd
open List renaming getElem?_eq_getElem→Zi
open Nat renaming le_refl→Zp
open Go.Proofs.Tryz renaming prog→Zr
def Uq(w:Int):Bool:=decide (1≤w)&&decide (w≤128)
def Xb(l:List Int)(n:Int):Int:=if 0≤n∧n<(l.length:Int) then l.getD n.toNat 0 else 0
def VP(op:Int):Bool:=decide (1≤op∧op≤20)
def Xi(op:Int):Int:=if op=7∨op=8∨op=9∨op=13∨op=14 then 1 else if 10≤op∧op≤20 then 2 else 0
def lA(op:Int):Bool:=op==2||op==3||op==4||op==6||op==9||op==13||op==14
def lB(op:Int):Bool:=op==2||op==9
def lV(op:Int):Bool:=op==1
structure Xf where
 heads:List (List Int)
 metas:List Int
 params:List Int
def T4(E:Xf)(a b:Int):Int:=if 0≤a∧a<(E.heads.length:Int) then Xb (E.heads.getD a.toNat []) b else 0
def YZ(E:Xf)(fits:Bool)(n:Nd)(took:List Int):Bool :=
 if n.op=1 then fits
 else if n.op=2 then n.w==T4 E n.a n.b
 else if n.op=3 then n.w==Xb E.metas n.a
 else if n.op=4 then n.w==Xb E.params n.a
 else if n.op=5 then n.w==9
 else if n.op=6 then n.w==1&&(decide (0≤n.a)&&decide (n.a<(E.heads.length:Int)))
 else if n.op=9 then decide (n.a<took.getD 0 0)&&(decide (n.b≤n.a)&&(decide (0≤n.b)&&n.w==n.a-n.b+1))
 else if n.op=13∨n.op=14 then n.w==took.getD 0 0&&(decide (0≤n.a)&&decide (n.a≤127))
 else if n.op=10 then n.w==took.getD 0 0+took.getD 1 0
 else if n.op=18∨n.op=19∨n.op=20 then n.w==1&&took.getD 0 0==took.getD 1 0
 else took.all fun w=>w==n.w
def WP(n:Nu):Bool:=n.h==0&&n.l==0
def U9(n:Nd):Bool:=Uq n.w&&((lA n.op||n.a==0)&&((lB n.op||n.b==0)&&(lV n.op||WP n.v)))
def Vt(E:Xf)(fits:Bool)(st:List Int)(n:Nd):Option (List Int) :=
 if VP n.op&&(decide (0≤(st.length:Int)-Xi n.op)&&(U9 n&&YZ E fits n (st.drop ((st.length:Int)-Xi n.op).toNat))) then some (st.take ((st.length:Int)-Xi n.op).toNat++[n.w]) else none
def X8(E:Xf)(fits:Bool)(n:Nd):Int :=
 if n.op=1 then (if n.a=0∧n.b=0∧Uq n.w=true∧fits=true then n.w else 0)
 else if WP n.v=false∨n.op≠2∧n.b≠0 then 0
 else if n.op=2 then T4 E n.a n.b
 else if n.op=3 then Xb E.metas n.a
 else if n.op=4 then Xb E.params n.a
 else if n.op=5 then (if n.a=0 then 9 else 0)
 else if n.op=6 then (if 0≤n.a∧n.a<(E.heads.length:Int) then 1 else 0)
 else 0
def Ut(n:Nd)(w:Int):Int :=
 if n.op=7∨n.op=8 then (if n.a=0∧n.b=0 then w else 0)
 else if n.op=13∨n.op=14 then (if n.b=0∧0≤n.a∧n.a≤127 then w else 0)
 else if n.op=9 then (if 0≤n.b∧n.b≤n.a∧n.a<w then n.a-n.b+1 else 0)
 else 0
def Wu(n:Nd)(a b:Int):Int :=
 if n.a≠0∨n.b≠0 then 0
 else if n.op=10 then a+b
 else if a≠b then 0
 else if n.op=18∨n.op=19∨n.op=20 then 1
 else if 11≤n.op∧n.op≤17 then a
 else 0
def Ui(st:List Int)(n:Nd)(w:Int):Option (List Int):=if w=n.w∧Uq w=true then some (st++[w]) else none
def TT(E:Xf)(fits:Bool)(st:List Int)(n:Nd):Option (List Int) :=
 if 1≤n.op∧n.op≤6 then Ui st n (X8 E fits n)
 else if WP n.v=false then none
 else if n.op=7∨n.op=8∨n.op=9∨n.op=13∨n.op=14 then (if st.length<1 then none else Ui (st.take (st.length-1)) n (Ut n (st.getD (st.length-1) 0)))
 else (if st.length<2 then none else Ui (st.take (st.length-2)) n (Wu n (st.getD (st.length-2) 0) (st.getD (st.length-1) 0)))
theorem MG(st:List Int)(h:1≤st.length):st.drop (st.length-1)=[st.getD (st.length-1) 0]:=by
 apply List.ext_getElem
 ·simp only[List.length_drop,List.length_cons,List.length_nil];omega
 ·intro i h1 h2
  simp only[List.length_cons,List.length_nil]at h2;obtain rfl:i=0:=by omega
  simp only[List.getElem_drop,List.getElem_cons_zero,Nat.add_zero,List.getD_eq_getElem?_getD];rw[Zi (by omega)];rfl
theorem MH(st:List Int)(h:2≤st.length):st.drop (st.length-2)=[st.getD (st.length-2) 0,st.getD (st.length-1) 0]:=by
 apply List.ext_getElem
 ·simp only[List.length_drop,List.length_cons,List.length_nil];omega
 ·intro i h1 h2
  simp only[List.length_cons,List.length_nil]at h2;rcases (by omega:i=0∨i=1) with rfl|rfl
  ·simp only[List.getElem_drop,List.getElem_cons_zero,Nat.add_zero,List.getD_eq_getElem?_getD]
   rw[Zi (by omega)];rfl
  ·simp only[List.getElem_drop,List.getElem_cons_succ,List.getElem_cons_zero,List.getD_eq_getElem?_getD]
   rw[Zi (by omega)];simp only[Option.getD_some];congr 1;omega
theorem Lw{α:Type}{p q:Prop}[Decidable p][Decidable q]{x y:α}(h:p↔q)(e:p→x=y):(if p then some x else none)=if q then some y else none:=by
 by_cases hp:p
 ·rw[if_pos hp,if_pos (h.1 hp),e hp]
 ·rw[if_neg hp,if_neg (fun c=>hp (h.2 c))]
theorem G3(E:Xf)(fits:Bool)(st:List Int)(n:Nd):Vt E fits st n=if (VP n.op=true∧0≤(st.length:Int)-Xi n.op∧U9 n=true∧YZ E fits n (st.drop ((st.length:Int)-Xi n.op).toNat)=true) then some (st.take ((st.length:Int)-Xi n.op).toNat++[n.w]) else none:=by
 unfold Vt;simp only[Zd,decide_eq_true_eq]
theorem Pe(st:List Int)(n:Nd)(w:Int):Ui st n w=if w=n.w∧1≤w∧w≤128 then some (st++[n.w]) else none:=by
 unfold Ui Uq;simp only[Zd,decide_eq_true_eq];exact Lw Iff.rfl (fun h=>by rw[h.1])
theorem RO(n:Nd):U9 n=true↔(1≤n.w∧n.w≤128)∧(lA n.op=true∨n.a=0)∧(lB n.op=true∨n.b=0)∧(lV n.op=true∨WP n.v=true):=by
 simp[U9,Uq]
theorem MI(E:Xf)(fits:Bool)(st:List Int)(n:Nd):TT E fits st n=Vt E fits st n:=by
 obtain⟨op,w,a,b,v⟩:=n;simp only[G3,RO];by_cases hop:1≤op∧op≤20
 ·obtain⟨h1,h2⟩:=hop
  have hc:op=1∨op=2∨op=3∨op=4∨op=5∨op=6∨op=7∨op=8∨op=9∨op=10∨op=11∨op=12∨op=13∨op=14∨op=15∨op=16∨op=17∨op=18∨op=19∨op=20:=by omega
  have hl0:((st.length:Int)-0).toNat=st.length:=by omega
  have e5:(0:Int)≤(st.length:Int):=by omega
  have hz1:((st.length:Int)-1).toNat=st.length-1:=by omega
  have Ym:((st.length:Int)-2).toNat=st.length-2:=by omega
  have f1:(st.length<1)=¬(0:Int)≤(st.length:Int)-1:=by apply propext;omega
  have f2:(st.length<2)=¬(0:Int)≤(st.length:Int)-2:=by apply propext;omega
  have hd1:(0:Int)≤(st.length:Int)-1→st.drop (st.length-1)=[st.getD (st.length-1) 0]:=fun h=>MG st (by omega);have Vo:(0:Int)≤(st.length:Int)-2→st.drop (st.length-2)=[st.getD (st.length-2) 0,st.getD (st.length-1) 0]:=fun h=>MH st (by omega);by_cases c1:(0:Int)≤(st.length:Int)-1;all_goals by_cases c2:(0:Int)≤(st.length:Int)-2
  all_goals rcases Bool.eq_false_or_eq_true (WP v) with hn|hn
  all_goals
   rcases hc with rfl|rfl|rfl|rfl|rfl|rfl|rfl|rfl|rfl|rfl|rfl|rfl|rfl|rfl|rfl|rfl|rfl|rfl|rfl|rfl
   all_goals
    simp[TT,Pe,X8,Ut,Wu,YZ,VP,Xi,lA,lB,lV,hl0,hz1,Ym,f1,f2,c1,c2,hd1,Vo,hn,e5,Uq,-List.getD_eq_getElem?_getD];try (repeat' split) <;> first|rfl|omega|(simp_all;done)|(simp_all;omega)
 ·have n1:¬(1≤op∧op≤6):=by omega
  have n2:¬(op=7∨op=8∨op=9∨op=13∨op=14):=by omega
  have n3:VP op=false:=by simp[VP];omega
  have n4:∀x y:Int,Wu ⟨op,w,a,b,v⟩ x y=0:=by
   intro x y;simp only[Wu];repeat' split
   all_goals omega
  simp only[TT,n1,n2,n3,n4,Pe,if_false,Bool.false_eq_true,false_and];split
  ·rfl
  ·split
   ·rfl
   ·rw[if_neg (by omega)]
theorem Vh.plus{P:Program}{w:World}{f:FuncId}{args:Array Value}{v:Value}(h:Vh P w f args v)(z:ZA):∀y,Calls P f args (plus (plus w z) y) fun e w'=>e=.returned v∧∃x,w'=Go.Proofs.YtheaknidbcbneaaGreat.plus w x:=fun y=>by
 rw[Zx];exact h _
theorem St.sz_pos(s:St):1≤s.sz:=by rw[St.sz_eq];omega
mutual
/-- How deep it is. -/
def Ex.dp:Ex→Nat
 | .mk _ _ _ _ _ _ _ _ args=>Ex.dps 1 args
def Ex.dps(m:Nat):List Ex→Nat
 | []=>m
 | e :: l=>Ex.dps (if m<1+e.dp then 1+e.dp else m) l
end
def Ex.top(a b:Ex):Bool:=a.op==b.op&&(a.lit.w==b.lit.w&&(a.lit.h==b.lit.h&&a.lit.l==b.lit.l))&&a.head.toList==b.head.toList&&a.name.toList==b.name.toList&&a.hi==b.hi&&a.lo==b.lo
mutual
/-- The same? -/
def Ex.same:Ex→Ex→Bool
 | .mk op lit hd nm h l _ _ args,b=>Ex.top (.mk op lit hd nm h l none 0 []) b&&Ex.sames args b.args
def Ex.sames:List Ex→List Ex→Bool
 | [],[]=>true
 | a :: l,b :: r=>a.same b&&Ex.sames l r
 | [],_ :: _=>false
 | _ :: _,[]=>false
end
mutual
/-- The same? -/
def St.same:St→St→Bool
 | .mk k hd nm e _ _ thn _ _ els,b=>k==b.kind&&(hd.toList==b.head.toList&&(nm.toList==b.name.toList&&(e.same b.e&&(St.sames thn b.thn&&St.sames els b.els))))
def St.sames:List St→List St→Bool
 | [],[]=>true
 | a :: l,b :: r=>a.same b&&St.sames l r
 | [],_ :: _=>false
 | _ :: _,[]=>false
end
def Ov(W U:World):Prop:=∃z,U=plus W z
theorem Ov.start(W:World)(y:ZA):Ov W (plus W y):=⟨y,rfl⟩
theorem Ov.drew{W U:World}(h:Ov W U):Ov W U.drew:=by
 obtain⟨z,rfl⟩:=h;exact⟨⟨z.blocks,z.draws+1⟩,rfl⟩
theorem Ov.alloc{W U:World}(h:Ov W U)(o:Obj):Ov W (U.alloc o):=by
 obtain⟨z,rfl⟩:=h;obtain⟨y,hy⟩:=ZS ((Zc (plus W z).heap.size (plus W z)).alloc (Zp _) o);exact⟨_,hy.trans (Zx _ _ _)⟩
theorem G2{w:World}{a:Addr}{v:Value}(h:w.cell? a=some v):a.spot=none:=by
 obtain⟨b,o,sp⟩:=a;cases sp with
 | none=>rfl
 | some q =>
  exfalso;unfold World.cell? at h;revert h;simp only;split <;> simp
theorem Z2.base{α:Type}{w:World}{C:Nat}{cells:α→List Value}{p:Option Addr}{l:List α}{x:α}{v:Value}(h:Z2 w C cells p l)(hx:l[0]?=some x)(hc:(cells x)[0]?=some v):∃g o,p=some ⟨g,o,none⟩:=by
 obtain⟨a,ha,VH⟩:=h 0 x hx;have h1:=VH 0 v hc;rw[Nat.zero_mul]at h1;have h2:w.cell? a=some v:=h1;have h3:=G2 h2;obtain⟨b,o,sp⟩:=a;simp only at h3;subst h3;exact⟨b,o,ha⟩
theorem QH(g o n:Nat):(⟨g,o,none⟩:Addr).add n=⟨g,o+n,none⟩:=by
 unfold Addr.add;split
 ·rename_i h;rw[h];rfl
 ·rfl
end Go.Proofs.YtheaknidbcbneaaGreat

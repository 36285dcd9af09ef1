/-
  WHAT IS PROVED HERE: a part of the proof (made narrower and merged by program; the parts: Dm Dn Do Dp Dq).
-/
import Derived.Test.YtknmeggfokpbjaaGreatM23
set_option maxRecDepth 100000
set_option maxHeartbeats 8000000
set_option linter.all false
namespace Go.Proofs.YtknmeggfokpbjaaGreat
open Z
open Go.RowKit Go.Proofs.Tryz
open Below renaming refl→Zb
open Fence renaming wide→Ze
open Lib renaming hid→Zf
open List renaming length_append→Zj,length_cons→Zk,length_nil→Zl,mem_of_getElem?→Zo
open Nat renaming le_refl→Zt,lt_of_lt_of_le→Zu,zero_add→Zv,zero_le→Zw
open Go.Proofs.Tryz renaming prog→Zx
open Value renaming int→Zz
open Go.RowKit Go.Shelf
attribute [local go_sem] Oper.semAt_some
theorem li{α:Type}(cells:α→List Value)(hC:∀x,LL (cells x))(m:α→Nat)(g:FuncId)(first caps:Array Value)(K:α→Prop)(S:Bx)(J Jx:Nat→World→Prop)(hJ:VF J)(w:World)(hS:S.over w.heap.size)(A:Sl α)(hA:A.In w 2 cells K)(hl:A.l.length≤1048576)(Xb:∀args w,(callFunc g args).run Zx w=.ok (.enter g args) w)(Ym:Nat)(W:World)(hw:Kr S w W)(hb:∀b,S.f b→b<W.heap.size)(h0:J Ym W)(hf:∀(i:Nat) (x:α) (W1:World),A.l[i]?=some x→Kr S W W1→J (Ym+Xd m A.l i) W1→CallsIn Ze 0 Zx g (first++(#[.int .i64 (i:Int),.agg (cells x).toArray]++caps)) W1 (XB S J Jx (Ym+Xd m A.l i) (m x) W1)) :
  CallsIn Ze 0 Zx 67 #[A.v,.func (.func g) first caps] W (XB S J Jx Ym ((A.l.map m).sum) W):=by
 open Z renaming aoi→Rj in exact Rt
theorem lf{α:Type}(cells:α→List Value)(hC:∀x,LK (cells x))(m:α→Nat)(g:FuncId)(first caps:Array Value)(K:α→Prop)(S:Bx)(J Jx:Nat→World→Prop)(hJ:VF J)(w:World)(hS:S.over w.heap.size)(A:Sl α)(hA:A.In w 2 cells K)(hl:A.l.length≤1048576)(Xb:∀args w,(callFunc g args).run Zx w=.ok (.enter g args) w)(Ym:Nat)(W:World)(hw:Kr S w W)(hb:∀b,S.f b→b<W.heap.size)(h0:J Ym W)(hf:∀(i:Nat) (x:α) (W1:World),A.l[i]?=some x→Kr S W W1→J (Ym+Xd m A.l i) W1→CallsIn Ze 0 Zx g (first++(#[.int .i64 (i:Int),.agg (cells x).toArray]++caps)) W1 (XB S J Jx (Ym+Xd m A.l i) (m x) W1)) :
  CallsIn Ze 0 Zx 69 #[A.v,.func (.func g) first caps] W (XB S J Jx Ym ((A.l.map m).sum) W):=by
 open Z renaming aoj→Rj in exact Rt
theorem lk{α:Type}(cells:α→List Value)(hC:∀x,LM (cells x))(m:α→Nat)(g:FuncId)(first caps:Array Value)(K:α→Prop)(S:Bx)(J Jx:Nat→World→Prop)(hJ:VF J)(w:World)(hS:S.over w.heap.size)(A:Sl α)(hA:A.In w 5 cells K)(hl:A.l.length≤1048576)(Xb:∀args w,(callFunc g args).run Zx w=.ok (.enter g args) w)(Ym:Nat)(W:World)(hw:Kr S w W)(hb:∀b,S.f b→b<W.heap.size)(h0:J Ym W)(hf:∀(i:Nat) (x:α) (W1:World),A.l[i]?=some x→Kr S W W1→J (Ym+Xd m A.l i) W1→CallsIn Ze 0 Zx g (first++(#[.int .i64 (i:Int),.agg (cells x).toArray]++caps)) W1 (XB S J Jx (Ym+Xd m A.l i) (m x) W1)) :
  CallsIn Ze 0 Zx 72 #[A.v,.func (.func g) first caps] W (XB S J Jx Ym ((A.l.map m).sum) W):=by
 open Z renaming aok→Rj in exact Rt
theorem la{α:Type}(cells:α→List Value)(hC:∀x,LJ (cells x))(m:α→Nat)(g:FuncId)(first caps:Array Value)(K:α→Prop)(S:Bx)(J Jx:Nat→World→Prop)(hJ:VF J)(w:World)(hS:S.over w.heap.size)(A:Sl α)(hA:A.In w 3 cells K)(hl:A.l.length≤1048576)(Xb:∀args w,(callFunc g args).run Zx w=.ok (.enter g args) w)(Ym:Nat)(W:World)(hw:Kr S w W)(hb:∀b,S.f b→b<W.heap.size)(h0:J Ym W)(hf:∀(i:Nat) (x:α) (W1:World),A.l[i]?=some x→Kr S W W1→J (Ym+Xd m A.l i) W1→CallsIn Ze 0 Zx g (first++(#[.int .i64 (i:Int),.agg (cells x).toArray]++caps)) W1 (XB S J Jx (Ym+Xd m A.l i) (m x) W1)) :
  CallsIn Ze 0 Zx 74 #[A.v,.func (.func g) first caps] W (XB S J Jx Ym ((A.l.map m).sum) W):=by
 open Z renaming aol→Rj in exact Rt
theorem ls{α:Type}(cells:α→List Value)(hC:∀x,LN (cells x))(m:α→Nat)(g:FuncId)(first caps:Array Value)(K:α→Prop)(S:Bx)(J Jx:Nat→World→Prop)(hJ:VF J)(w:World)(hS:S.over w.heap.size)(A:Sl α)(hA:A.In w 5 cells K)(hl:A.l.length≤1048576)(Xb:∀args w,(callFunc g args).run Zx w=.ok (.enter g args) w)(Ym:Nat)(W:World)(hw:Kr S w W)(hb:∀b,S.f b→b<W.heap.size)(h0:J Ym W)(hf:∀(i:Nat) (x:α) (W1:World),A.l[i]?=some x→Kr S W W1→J (Ym+Xd m A.l i) W1→CallsIn Ze 0 Zx g (first++(#[.int .i64 (i:Int),.agg (cells x).toArray]++caps)) W1 (XB S J Jx (Ym+Xd m A.l i) (m x) W1)) :
  CallsIn Ze 0 Zx 76 #[A.v,.func (.func g) first caps] W (XB S J Jx Ym ((A.l.map m).sum) W):=by
 open Z renaming aom→Rj in exact Rt
theorem lq{α:Type}(cells:α→List Value)(hC:∀x,J4 (cells x))(m:α→Nat)(g:FuncId)(first caps:Array Value)(K:α→Prop)(S:Bx)(J Jx:Nat→World→Prop)(hJ:VF J)(w:World)(hS:S.over w.heap.size)(A:Sl α)(hA:A.In w 14 cells K)(hl:A.l.length≤1048576)(Xb:∀args w,(callFunc g args).run Zx w=.ok (.enter g args) w)(Ym:Nat)(W:World)(hw:Kr S w W)(hb:∀b,S.f b→b<W.heap.size)(h0:J Ym W)(hf:∀(i:Nat) (x:α) (W1:World),A.l[i]?=some x→Kr S W W1→J (Ym+Xd m A.l i) W1→CallsIn Ze 0 Zx g (first++(#[.int .i64 (i:Int),.agg (cells x).toArray]++caps)) W1 (XB S J Jx (Ym+Xd m A.l i) (m x) W1)) :
  CallsIn Ze 0 Zx 145 #[A.v,.func (.func g) first caps] W (XB S J Jx Ym ((A.l.map m).sum) W):=by
 open Z renaming aon→Rj in exact Rt
theorem lv(m:ByteArray→Nat)(g:FuncId)(first caps:Array Value)(K:ByteArray→Prop)(S:Bx)(J Jx:Nat→World→Prop)(hJ:VF J)(w:World)(hS:S.over w.heap.size)(A:Sl ByteArray)(hA:A.In w 1 V1 K)(hl:A.l.length≤1048576)(Xb:∀args w,(callFunc g args).run Zx w=.ok (.enter g args) w)(Ym:Nat)(W:World)(hw:Kr S w W)(hb:∀b,S.f b→b<W.heap.size)(h0:J Ym W)(hf:∀(i:Nat) (x:ByteArray) (W1:World),A.l[i]?=some x→Kr S W W1→J (Ym+Xd m A.l i) W1→CallsIn Ze 0 Zx g (first++(#[.int .i64 (i:Int),.string x]++caps)) W1 (XB S J Jx (Ym+Xd m A.l i) (m x) W1)) :
  CallsIn Ze 0 Zx 79 #[A.v,.func (.func g) first caps] W (XB S J Jx Ym ((A.l.map m).sum) W):=by
 open Z renaming aoq→zx in exact pz
open Go.RowKit Go.Shelf
attribute [local go_sem] Oper.semAt_some
structure S5 (P:Program) (l:Nat) (xs:List It) (S:Bx) (J Jx:Nat→World→Prop):Prop where
 next:Ck P l It.v xs S J Jx
 lays:VF J
theorem S5.parts{P:Program}{l:Nat}{xs:List It}{S:Bx}{J Jx:Nat→World→Prop}(h:S5 P l xs S J Jx){k:Nat}{kind:Int}{a n:Nat}(hs:Xp xs k (Wu kind a n)):∀j W1,j<n→J (k+j) W1→YieldAt Ze 0 P l #[RL kind a (j:Int)] W1 (XB S J Jx (k+j) 1 W1):=fun j W1 hj hJ=>h.next (k+j) (.num kind a j) W1 (hs j _ (JM kind a n j hj)) hJ
theorem S5.one{P:Program}{l:Nat}{xs:List It}{S:Bx}{J Jx:Nat→World→Prop}(h:S5 P l xs S J Jx){k:Nat}{kind:Int}{a:Nat}(hs:xs[k]?=some (.num kind a 0)){W:World}(hJ:J k W):YieldAt Ze 0 P l #[RL kind a 0] W (XB S J Jx k 1 W):=h.next k (.num kind a 0) W hs hJ
theorem aaj(l:Nat)(xs:List It)(S:Bx)(J Jx:Nat→World→Prop)(hR:S5 Zx l xs S J Jx)(a:Nat)(nm p)(n c:Nat)(hn:n≤1048576)(k:Nat)(hs:Xp xs k (Up a n))(W:World)(hb:∀b,S.f b→b<W.heap.size)(h0:J k W) :
  CallsIn Ze 0 Zx 68 #[yv l,.int .i64 (a:Int),.agg #[.string nm,.slice p n c]] W (XB S J Jx k (n+1) W):=by
 have ZR:=Zf hR;have ZO:=Zf hn;have Wr:=Zf hs;have Yi:=Zf hb;have YM:=Zf h0;have q1:=Zf (fun o:Obj=>Pv l 1 (a:Int) S J Jx k (W.alloc o) (hR.one hs.head (UB hR.lays h0 o)));open Z renaming ahA→Ai in exact vS
-- the chains,by gen/zn.py
theorem aav(l:Nat)(xs:List It)(S:Bx)(J Jx:Nat→World→Prop)(hR:S5 Zx l xs S J Jx)(a:Nat)(nm t p pk pc)(n c nk ck m cm:Nat)(hn:n≤1048576)(hm:m≤1048576)(k:Nat)(hs:Xp xs k (VN a n m))(W:World)(hb:∀b,S.f b→b<W.heap.size)(h0:J k W) :
  CallsIn Ze 0 Zx 73 #[yv l,.int .i64 (a:Int),.agg #[.string nm,.slice p n c,.string t,.slice pk nk ck,.slice pc m cm]] W (XB S J Jx k (n+m+2) W):=by
 open Z renaming aii→Je in exact II
theorem aax(l:Nat)(xs:List It)(S:Bx)(J Jx:Nat→World→Prop)(hR:S5 Zx l xs S J Jx)(a:Nat)(nm dn p pk pc)(n c m cm dl dc:Nat)(hn:n≤1048576)(hm:m≤1048576)(k:Nat)(hs:Xp xs k (VG a n m))(W:World)(hb:∀b,S.f b→b<W.heap.size)(h0:J k W) :
  CallsIn Ze 0 Zx 77 #[yv l,.int .i64 (a:Int),.agg #[.string nm,.slice p n c,.slice pk m cm,.string dn,.slice pc dl dc]] W (XB S J Jx k (n+m+2) W):=by
 open Z renaming aij→Je in exact II
theorem aQ(l:Nat)(xs:List It)(S:Bx)(J Jx:Nat→World→Prop)(hR:S5 Zx l xs S J Jx)(a:Nat)(nm p pk)(n c m cm:Nat)(ys:List It)(hn:n≤1048576)(k:Nat)(hs:Xp xs k (.num 8 a 0 :: (Wu 9 a n++ys)))(W:World)(hb:∀b,S.f b→b<W.heap.size)(h0:J k W)(hbl:∀(k':Nat) (W1:World),Kr S W W1→Xp xs k' ys→J k' W1→CallsIn Ze 0 Zx 78 #[yv l,.int .i64 (a:Int),.slice pk m cm] W1 (XB S J Jx k' ys.length W1)) :
  CallsIn Ze 0 Zx 75 #[yv l,.int .i64 (a:Int),.agg #[.string nm,.slice p n c,.slice pk m cm]] W (XB S J Jx k (n+ys.length+1) W):=by
 have ZR:=Zf hR;have Wr:=Zf hs;have Yi:=Zf hb;have ZO:=Zf hn;have t1:=hs.tail.right;rw[Q1]at t1;have t1':=Zf t1;have hbl':=Zf hbl;clear t1 hn hbl;have q1:=Zf (fun o:Obj=>Pv l 8 (a:Int) S J Jx k (W.alloc o) (hR.one hs.head (UB hR.lays h0 o)));open Z renaming ahQ→An in exact vZ
open Go.RowKit Go.Shelf
attribute [local go_sem] Oper.semAt_some
def Q8(L:Sl St):Prop:=∀(l:Nat) (xs:List It) (S:Bx) (J Jx:Nat→World→Prop),S5 Zx l xs S J Jx→∀(a:Int) (w:World),(S.over w.heap.size)→L.In w 14 St.cells (St.In w)→L.size St.sz≤1048576 →
 ∀(k:Nat) (W:World),Kr S w W→(∀b,S.f b→b<W.heap.size)→Xp xs k (St.encs a L.l)→J k W →
 CallsIn Ze 0 Zx 78 #[yv l,.int .i64 a,L.v] W (XB S J Jx k (St.encs a L.l).length W)
theorem aab(l:Nat)(S:Bx)(J Jx:Nat→World→Prop)(hJ:VF J)(a i ZU ZI ZJ Ye Yd Z9 Ya Z5 Z6 Z8 Yb Z7 Yf Z4 Z0 ZW ZZ Z3 ZX Z1)(c d:Nat)(k m n:Nat)(W:World)(hb:∀b,S.f b→b<W.heap.size)(h0:J k W)(hc:∀W1,Kr S W W1→W1.cell? ⟨c,0,none⟩=some (yv l))(hd:∀W1,Kr S W W1→W1.cell? ⟨d,0,none⟩=some (.int .i64 a))(hy:∀W1,J k W1→YieldAt Ze 0 Zx l #[.agg #[.int .u8 10,.int .i64 a,.int .i64 0,.int .u8 ZU,.string ZI,.string ZJ,.int .u8 Ye,.int .i64 Yd,.int .u64 Z9,.int .u64 Ya,.string Z5,.string Z6,.int .i64 Z8,.int .i64 Yb,.slice Z7 Yf Z4,.slice Z0 ZW ZZ,.slice Z3 ZX Z1]] W1 (XB S J Jx k 1 W1))(h1:∀W1,Kr S W W1→J (k+1) W1→CallsIn Ze 0 Zx 78 #[yv l,.int .i64 a,.slice Z0 ZW ZZ] W1 (XB S J Jx (k+1) m W1))(h2:∀W1,Kr S W W1→J (k+1+m) W1→CallsIn Ze 0 Zx 78 #[yv l,.int .i64 a,.slice Z3 ZX Z1] W1 (XB S J Jx (k+1+m) n W1)) :
  CallsIn Ze 0 Zx 146 #[.int .i64 i,.agg #[.int .u8 ZU,.string ZI,.string ZJ,.int .u8 Ye,.int .i64 Yd,.int .u64 Z9,.int .u64 Ya,.string Z5,.string Z6,.int .i64 Z8,.int .i64 Yb,.slice Z7 Yf Z4,.slice Z0 ZW ZZ,.slice Z3 ZX Z1],.pointer (some ⟨c,0,none⟩),.pointer (some ⟨d,0,none⟩)] W (XB S J Jx k (1+(m+n)) W):=by
 have Yi:=Zf hb;have YA:=Zf h1;have Xg:=Zf h2;have Yo:=Zf hc;have hd':=Zf hd;have hy':=Zf (fun o:Obj=>hy (W.alloc o) (UB hJ h0 o));have c0:=fun o:Obj=>hc (W.alloc o) (Kr.alloc S W o);have d0:=fun o:Obj=>hd (W.alloc o) (Kr.alloc S W o);open Z renaming adJ→BO in exact wQ
theorem Ev(L:Sl St)(ih:∀x∈L.l,Q8 x.thnS∧Q8 x.elsS):Q8 L:=by
 intro l xs S J Jx hR a w hS ZF hz k W hw hb hs h0;have XQ:=Xk St.sz St.sz_pos L hz;obtain⟨c,hc⟩:=ZB W.heap.size;have hmain:∀V,Kr S W V→T7 S V c (yv l)→T7 S V (c+1) (.int .i64 a)→c+1<V.heap.size→J k V →
   CallsIn Ze 0 Zx 145 #[L.v,.func (.func 146) #[] #[.pointer (some ⟨c,0,none⟩),.pointer (some ⟨c+1,0,none⟩)]] V (XB S J Jx k (St.encs a L.l).length V):=by
  intro V hV hc1 hc2 YB hJk;rw[St.encs_len];have hbV:∀b,S.f b→b<V.heap.size:=fun b h=>Zu (hb b h) hV.size;have hsf:Xp xs k (YD (fun _ s=>St.enc a s) 0 L.l):=by rw[←St.encs_fl];exact hs
  refine lq St.cells Ee (fun s=>(St.enc a s).length) 146 #[] #[.pointer (some ⟨c,0,none⟩),.pointer (some ⟨c+1,0,none⟩)] (St.In w) S J Jx hR.lays w hS L ZF XQ (enters_of func146 asC rfl) k V (hw.trans hV) hbV hJk ?_;intro i x W1 hx hK Xq;have ZV:x∈L.l:=Zo hx;have hxz:x.sz≤1048576:=Nat.le_trans (YW St.sz L.l x ZV) hz;have h1z:=St.sz_eq x;have Ow:=ZF.kids x ZV;have sx:Xp xs (k+Xd (fun s=>(St.enc a s).length) L.l i) (St.enc a x):=Xp.at (fun _ s=>St.enc a s) (fun s=>(St.enc a s).length) (fun _ _=>rfl) L.l k 0 i x hsf hx;rw[St.enc_eq]at sx;have hwV:Kr S w W1:=(hw.trans hV).trans hK;have UM:∀b,S.f b→b<W1.heap.size:=fun b h=>Zu (hbV b h) hK.size;have q:=aab l S J Jx hR.lays a (i:Int) x.kind x.head x.name x.e.op x.e.lit.w x.e.lit.h x.e.lit.l x.e.head x.e.name x.e.hi x.e.lo x.e.p x.e.args.length x.e.cap x.p x.thn.length x.cap x.q x.els.length x.cbp c (c+1) (k+Xd (fun s=>(St.enc a s).length) L.l i) (St.encs a x.thn).length (St.encs a x.els).length W1 UM Xq
   (fun W2 h=>(hK.trans h).cell _ _ hc1.no hc1.cell) (fun W2 h=>(hK.trans h).cell _ _ hc2.no hc2.cell)
   (fun W2 h=>hR.next _ (.st a x) W2 sx.head h)
   (fun W2 h hj=>(ih x ZV).1 l xs S J Jx hR a w hS (St.In.inThn Ow) (show (x.thn.map St.sz).sum≤_ by omega) _ W2 (hwV.trans h) (fun b hb=>Zu (UM b hb) h.size) sx.tail.left hj)
   (fun W2 h hj=>(ih x ZV).2 l xs S J Jx hR a w hS (St.In.inEls Ow) (show (x.els.map St.sz).sum≤_ by omega) _ W2 (hwV.trans h) (fun b hb=>Zu (UM b hb) h.size) sx.tail.right hj)
  rw[show (St.enc a x).length=1+((St.encs a x.thn).length+(St.encs a x.els).length) by rw[St.enc_eq];simp;omega];exact q
 open Z renaming ae2→BS in exact vi
theorem aad:∀s:St,Q8 s.thnS∧Q8 s.elsS:=fun s=>St.ind (Q:=fun s=>Q8 s.thnS∧Q8 s.elsS) (fun s h1 h2=>⟨Ev s.thnS fun x hx=>h1 x hx,Ev s.elsS fun x hx=>h2 x hx⟩) s
theorem Cx(L:Sl St):Q8 L:=Ev L fun x _=>aad x
open Go.RowKit Go.Shelf
attribute [local go_sem] Oper.semAt_some
theorem iR(l:Nat)(xs:List It)(S:Bx)(J Jx:Nat→World→Prop)(hR:S5 Zx l xs S J Jx)(a:Nat)(nm w0)(c k:Nat)(W:World)(hs:xs[k]?=some (.num 3 a 0))(hc:W.cell? ⟨c,0,none⟩=some (yv l))(h0:J k W) :
  CallsIn Ze 0 Zx 70 #[.int .i64 (a:Int),.agg #[.string nm,.int .i64 w0],.pointer (some ⟨c,0,none⟩)] W (XB S J Jx k 1 W):=by
 have q1:=Zf (fun o:Obj=>Pv l 3 (a:Int) S J Jx k (W.alloc o) (hR.one hs (UB hR.lays h0 o)));open Z renaming ag5→Af in exact vO
theorem lz(l:Nat)(xs:List It)(S:Bx)(J Jx:Nat→World→Prop)(hR:S5 Zx l xs S J Jx)(a:Nat)(nm)(c k:Nat)(W:World)(hs:xs[k]?=some (.num 15 a 0))(hc:W.cell? ⟨c,0,none⟩=some (yv l))(h0:J k W) :
  CallsIn Ze 0 Zx 80 #[.int .i64 (a:Int),.string nm,.pointer (some ⟨c,0,none⟩)] W (XB S J Jx k 1 W):=by
 have q1:=Zf (Pv l 15 (a:Int) S J Jx k W (hR.one hs h0));exact us
theorem jg(l:Nat)(S:Bx)(J Jx:Nat→World→Prop)(hJ:VF J)(p0 s0 c0 p1 s1 c1 p2 s2 c2 p3 s3 c3 p4 s4 c4 p5 s5 c5 p6 s6 c6)(n0 n1 n2 n3 n4 n5 n6:Nat)(k:Nat)(pb:Nat)(W:World)(hb:∀b,S.f b→b<W.heap.size)(Xx:¬S.s W pb)(hp:Yg W ⟨pb,0,none⟩ [.slice p0 s0 c0,.slice p1 s1 c1,.slice p2 s2 c2,.slice p3 s3 c3,.slice p4 s4 c4,.slice p5 s5 c5,.slice p6 s6 c6])(h0:J k W)(q0:∀V,Kr S W V→T7 S V W.heap.size (yv l)→J (k) V→CallsIn Ze 0 Zx 67 #[.slice p0 s0 c0,.func (.func 68) #[yv l] #[]] V (XB S J Jx (k) n0 V))(q1:∀V,Kr S W V→T7 S V W.heap.size (yv l)→J (k+n0) V→CallsIn Ze 0 Zx 69 #[.slice p1 s1 c1,.func (.func 70) #[] #[.pointer (some ⟨W.heap.size,0,none⟩)]] V (XB S J Jx (k+n0) n1 V))(q2:∀V,Kr S W V→T7 S V W.heap.size (yv l)→J (k+n0+n1) V→CallsIn Ze 0 Zx 72 #[.slice p2 s2 c2,.func (.func 73) #[yv l] #[]] V (XB S J Jx (k+n0+n1) n2 V))(q3:∀V,Kr S W V→T7 S V W.heap.size (yv l)→J (k+n0+n1+n2) V→CallsIn Ze 0 Zx 74 #[.slice p3 s3 c3,.func (.func 75) #[yv l] #[]] V (XB S J Jx (k+n0+n1+n2) n3 V))(q4:∀V,Kr S W V→T7 S V W.heap.size (yv l)→J (k+n0+n1+n2+n3) V→CallsIn Ze 0 Zx 76 #[.slice p4 s4 c4,.func (.func 77) #[yv l] #[]] V (XB S J Jx (k+n0+n1+n2+n3) n4 V))(q5:∀V,Kr S W V→T7 S V W.heap.size (yv l)→J (k+n0+n1+n2+n3+n4) V→CallsIn Ze 0 Zx 78 #[yv l,.int .i64 (-1),.slice p5 s5 c5] V (XB S J Jx (k+n0+n1+n2+n3+n4) n5 V))(q6:∀V,Kr S W V→T7 S V W.heap.size (yv l)→J (k+n0+n1+n2+n3+n4+n5) V→CallsIn Ze 0 Zx 79 #[.slice p6 s6 c6,.func (.func 80) #[] #[.pointer (some ⟨W.heap.size,0,none⟩)]] V (XB S J Jx (k+n0+n1+n2+n3+n4+n5) n6 V)) :
  CallsIn Ze 0 Zx 66 #[yv l,.pointer (some ⟨pb,0,none⟩)] W (fun e w'=>(∃v,e=.returned v)∧((J (k+n0+n1+n2+n3+n4+n5+n6) w'∧Kr S W w')∨∃i,Jx i w')):=by
 open Z renaming akV→A3 in exact tu
theorem je(l:Nat)(p:Pr)(S:Bx)(J Jx:Nat→World→Prop)(hR:S5 Zx l (Yh p) S J Jx)(w:World)(hS:S.over w.heap.size)(ZF:p.In w)(hz:p.sz≤1048576)(pb:Nat)(W:World)(hw:Kr S w W)(hb:∀b,S.f b→b<W.heap.size)(Xx:¬S.s W pb)(hp:Yg W ⟨pb,0,none⟩ p.cells)(h0:J 0 W) :
  CallsIn Ze 0 Zx 66 #[yv l,.pointer (some ⟨pb,0,none⟩)] W (fun e w'=>(∃v,e=.returned v)∧((J (Yh p).length w'∧Kr S W w')∨∃i,Jx i w')):=by
 have hs:Xp (Yh p) 0 (Yh p):=fun j x h=>by rw[Zv];exact h
 obtain⟨i0,i1,i2,i3,i4,i5,i6⟩:=ZF;have z:=hz;unfold Pr.sz at z;have Xb:∀V,Kr S W V→∀b,S.f b→b<V.heap.size:=fun V h b q=>Zu (hb b q) h.size;open Z renaming arC→zG in exact pZ
open Go.RowKit Go.Shelf
abbrev Bx.add(S:Bx)(l:Nat):Bx:=⟨fun b=>S.f b∨b=l,S.base⟩
theorem Kr.add{S:Bx}{W W':World}(h:Kr S W W')(l:Nat):Kr (S.add l) W W':=by
 have up:∀V b,S.s V b→(S.add l).s V b:=fun V b q=>by
  rcases q with q|q
  ·exact .inl (.inl q)
  ·exact .inr q
 refine h.mono up fun b q n=>?_;rcases q with (q|q)|q
 ·exact absurd (.inl q) n
 ·exact .inl (.inl (.inr q))
 ·exact absurd (.inr q) n
structure Ko (n:Nat) (W W':World):Prop where
 low:Below n W W'
 obj:∀(b:Nat) (o:Obj),W.heap[b]?=some o→o.isCells=true→W'.heap[b]?=some o
theorem Ko.refl(n:Nat)(W:World):Ko n W W:=⟨Zb _ _,fun _ _ h _=>h⟩
theorem Ko.trans{n:Nat}{A B C:World}(h:Ko n A B)(k:Ko n B C):Ko n A C:=⟨h.low.trans k.low,fun b o q e=>k.obj b o (h.obj b o q e) e⟩
theorem Ko.alloc{n:Nat}{W:World}(h:n≤W.heap.size)(o:Obj):Ko n W (W.alloc o):=⟨(Zb n W).alloc h o,fun b _ q _=>(Below.heap_alloc W o b (Array.getElem?_eq_some_iff.1 q).1).trans q⟩
theorem Ko.plus{n:Nat}{W:World}(h:n≤W.heap.size)(y:ZH):Ko n W (Go.Proofs.YtknmeggfokpbjaaGreat.plus W y):=⟨(Xl W y).mono h,fun _ _ q _=>UN q y⟩
theorem Ko.putObj{n:Nat}{W:World}{l:Nat}{o:Obj}(o':Obj)(h:W.heap[l]?=some o)(ho:o.isCells=false)(_:o'.isCells=false)(hl:n≤l):Ko n W (W.putObj l o'):=⟨⟨rfl,rfl,rfl,asD,fun k hk=>World.putObj_heap_other asB⟩,fun b o2 q e=>by
 by_cases c:b=l
 ·subst c;rw[h]at q;obtain rfl:=Option.some.inj q;rw[ho]at e;cases e
 ·exact (World.putObj_heap_other c).trans q⟩
theorem Ko.cell{n:Nat}{W W':World}(h:Ko n W W'){a:Addr}{v:Value}(hv:W.cell? a=some v):W'.cell? a=some v:=by
 have ZC:=World.block_lt_of_cell? W a hv;have hg:=Array.getElem?_eq_getElem ZC;cases hc:(W.heap[a.block]'ZC).isCells with
 | false=>rw[HM hg hc]at hv;cases hv
 | true=>exact (World.cell?_of_block ((h.obj _ _ hg hc).trans hg.symm)).trans hv
theorem Ko.kq{n:Nat}{W W':World}(h:Ko n W W'):Kq (fun b=>n≤b) W W':=⟨h.low.size,fun _ _ _ hv=>h.cell hv,fun B _ hB=>h.low.mono (hB n (Zt _))⟩
def iY(B:Nat)(S:Bx)(I:Nat→World→Prop)(Ix:World→Prop)(k:Nat)(W:World):Exit→Act→World→Prop
 | .normal,_,W'=>KeepsFrom B W W'∧Kr S W W'∧I (k+1) W'
 | .ret,_,W'=>KeepsFrom B W W'∧Ix W'
 | _,_,_=>False
theorem abf{P:Program}{g:Operand}{ps:Array Tmp}{assign body:Code}{Q:Exit→Act→World→Prop}{a:Act}{w:World}{gf:Nat}{lb:Array Value}(hg:a.eval g=.func (.func gf) #[] lb)(eg:∀args w,(callFunc gf args).run P w=.ok (.enter gf args) w){α:Type}(xs:List α)(encs:α→Value)(S:Bx)(hseq:∀(l:Nat) (J Jx:Nat→World→Prop) (W:World),w.heap.size≤l→l<W.heap.size→(∀T,Kr T w W)→VF J→Ck P l encs xs (S.add l) J Jx→J 0 W→CallsIn Ze 0 P gf (#[.func (.yield l) #[] #[]]++lb) W fun e W'=>(∃v,e=.returned v)∧((J xs.length W'∧Kr (S.add l) W W')∨∃i,Jx i W'))(hps:ps.size=1)(I:Nat→World→Prop)(Ix:World→Prop)(hI:∀k W W',I k W→Ko w.heap.size W W'→I k W')(hIx:∀W W',Ix W→Ko w.heap.size W W'→Ix W')(h0:I 0 w)(hround:∀(l k:Nat) (x:α) (W:World),w.heap.size≤l→l<W.heap.size→xs[k]?=some x→I k W→assign.wpIn (Ze.inRound l) 0 P (Exit.then (fun a' W'=>KeepsFrom w.heap.size W W'∧Kr S W W'∧∀W2,Ko w.heap.size W' W2→W2.heap.size=W'.heap.size→body.wpIn (Ze.inRound l) 0 P (iY w.heap.size S I Ix k W2) a' W2) (fun _ _ _=>False)) { tmps:=(ps.zip #[encs x]).foldl (fun t (p,v)=>t.setIfInBounds p v) a.tmps,defers:=[] } W)(hdone:∀(D:Nat) (W:World),w.heap.size≤D→I xs.length W→W.heap[D]?=some (.deferred (some []))→Q .normal { a with defers:={ target:=.collected D,args:=#[] } :: a.defers } W)(hstop:∀(D:Nat) (W:World),w.heap.size≤D→Ix W→W.heap[D]?=some (.deferred (some []))→Code.ret.wpIn Ze 0 P Q { a with defers:={ target:=.collected D,args:=#[] } :: a.defers } W) :
  (Code.rangeFunc g ps assign body).wpIn Ze 0 P Q a w:=by
 open Z renaming ae4→BT in exact vj
end Go.Proofs.YtknmeggfokpbjaaGreat

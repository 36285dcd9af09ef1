/-
  WHAT IS PROVED HERE: a part of the proof (made narrower and merged by program; the parts: Zn Zo Zp Zq Dk Dl).
-/
import Derived.Test.YtknmeggfokpbjaaGreatM22
set_option maxRecDepth 100000
set_option maxHeartbeats 8000000
set_option linter.all false
namespace Go.Proofs.YtknmeggfokpbjaaGreat
open Z
open Go.RowKit Go.Proofs.Tryz
open Below renaming refl→Zb
open Fence renaming wide→Ze
open Lib renaming hid→Zf
open List renaming getElem?_eq_some_iff→Zi,length_append→Zj,length_cons→Zk,length_nil→Zl,mem_of_getElem?→Zo
open Nat renaming le_refl→Zt,lt_of_lt_of_le→Zu,zero_add→Zv,zero_le→Zw
open Go.Proofs.Tryz renaming prog→Zx
open Value renaming int→Zz
open Go.RowKit Go.Shelf
attribute [local go_sem] Oper.semAt_some
inductive It where
 | num (kind:Int) (a b:Nat)
 | st (a:Int) (s:St)
def It.v:It→Value
 | .num kind a b=>RL kind (a:Int) (b:Int)
 | .st a s=>.agg #[.int .u8 10,.int .i64 a,.int .i64 0,.int .u8 s.kind,.string s.head,.string s.name,.int .u8 s.e.op,.int .i64 s.e.lit.w,.int .u64 s.e.lit.h,.int .u64 s.e.lit.l,.string s.e.head,.string s.e.name,.int .i64 s.e.hi,.int .i64 s.e.lo,.slice s.e.p s.e.args.length s.e.cap,.slice s.p s.thn.length s.cap,.slice s.q s.els.length s.cbp]
def Wu(kind:Int)(a n:Nat):List It:=(List.range n).map (fun j=>.num kind a j)
theorem Q1(kind:Int)(a n:Nat):(Wu kind a n).length=n:=by simp[Wu]
theorem JM(kind:Int)(a n j:Nat)(h:j<n):(Wu kind a n)[j]?=some (.num kind a j):=by simp[Wu,h]
def Xp(xs:List It)(k:Nat)(ys:List It):Prop:=∀j x,ys[j]?=some x→xs[k+j]?=some x
theorem Xp.head{xs:List It}{k:Nat}{y:It}{ys:List It}(h:Xp xs k (y :: ys)):xs[k]?=some y:=h 0 y rfl
theorem Xp.tail{xs:List It}{k:Nat}{y:It}{ys:List It}(h:Xp xs k (y :: ys)):Xp xs (k+1) ys:=fun j x hj=>by
 have:=h (j+1) x (by simpa using hj);rwa [show k+1+j=k+(j+1) by omega]
theorem Xp.left{xs:List It}{k:Nat}{a b:List It}(h:Xp xs k (a++b)):Xp xs k a:=fun j x hj=>h j x (by
 rw[List.getElem?_append_left (by exact (Zi.1 hj).1)];exact hj)
theorem Xp.right{xs:List It}{k:Nat}{a b:List It}(h:Xp xs k (a++b)):Xp xs (k+a.length) b:=fun j x hj=>by
 have:=h (a.length+j) x (by rw[List.getElem?_append_right (by omega)];simpa using hj);rwa [show k+a.length+j=k+(a.length+j) by omega]
def YD{α:Type}(f:Nat→α→List It):Nat→List α→List It
 | _,[]=>[]
 | i,x :: l=>f i x++YD f (i+1) l
theorem QP{α:Type}(f:Nat→α→List It)(m:α→Nat)(hm:∀i x,(f i x).length=m x):∀(l:List α) (b:Nat),(YD f b l).length=(l.map m).sum
 | [],_=>rfl
 | x :: l,b=>by simp[YD,hm,QP f m hm l]
theorem Xp.at{α:Type}{xs:List It}(f:Nat→α→List It)(m:α→Nat)(hm:∀i x,(f i x).length=m x):∀(l:List α) (k b i:Nat) (x:α),Xp xs k (YD f b l)→l[i]?=some x→Xp xs (k+Xd m l i) (f (b+i) x)
 | [],_,_,i,x,_,h=>by simp at h
 | y :: l,k,b,0,x,hs,h=>by
  obtain rfl:y=x:=asN;rw[EA];exact hs.left
 | y :: l,k,b,i+1,x,hs,h=>by
  have q:=Xp.at f m hm l (k+(f b y).length) (b+1) i x hs.right asN;rw[show b+1+i=b+(i+1) by omega]at q;rw[show Xd m (y :: l) (i+1)=m y+Xd m l i by simp[Xd],←Nat.add_assoc,←hm b y];exact q
def Up(a n:Nat):List It:=.num 1 a 0 :: Wu 2 a n
def VN(a n m:Nat):List It:=.num 4 a 0 :: (Wu 5 a n++(.num 6 a 0 :: Wu 7 a m))
def VG(a n m:Nat):List It:=.num 11 a 0 :: (Wu 12 a n++(Wu 13 a m++[.num 14 a 0]))
structure SZ (P:Program) (l:Nat) (xs:List It) (S:Nat→Prop) (J Jx:Nat→World→Prop):Prop where
 next:Cj P l It.v xs S J Jx
 lays:VF J
theorem SZ.parts{P:Program}{l:Nat}{xs:List It}{S:Nat→Prop}{J Jx:Nat→World→Prop}(h:SZ P l xs S J Jx){k:Nat}{kind:Int}{a n:Nat}(hs:Xp xs k (Wu kind a n)):∀j W1,j<n→J (k+j) W1→YieldAt Ze 0 P l #[RL kind a (j:Int)] W1 (XA S J Jx (k+j) 1 W1):=fun j W1 hj hJ=>h.next (k+j) (.num kind a j) W1 (hs j _ (JM kind a n j hj)) hJ
theorem SZ.one{P:Program}{l:Nat}{xs:List It}{S:Nat→Prop}{J Jx:Nat→World→Prop}(h:SZ P l xs S J Jx){k:Nat}{kind:Int}{a:Nat}(hs:xs[k]?=some (.num kind a 0)){W:World}(hJ:J k W):YieldAt Ze 0 P l #[RL kind a 0] W (XA S J Jx k 1 W):=h.next k (.num kind a 0) W hs hJ
theorem TH{S:Nat→Prop}{V W:World}(hb:∀b,S b→b<V.heap.size)(c:Array Value)(t:TypeId)(hk:Kq S (V.alloc (.cells c t)) W)(o:Nat)(v:Value)(h:c[o]?=some v):W.cell? ⟨V.heap.size,o,none⟩=some v :=
 hk.cell _ _ (fun hs=>Nat.lt_irrefl _ (hb _ hs)) ((YI V c t _ o rfl).trans h)
theorem aai(l:Nat)(xs:List It)(S:Nat→Prop)(J Jx:Nat→World→Prop)(hR:SZ Zx l xs S J Jx)(a:Nat)(nm p)(n c:Nat)(hn:n≤1048576)(k:Nat)(hs:Xp xs k (Up a n))(W:World)(hb:∀b,S b→b<W.heap.size)(h0:J k W) :
  CallsIn Ze 0 Zx 68 #[yv l,.int .i64 (a:Int),.agg #[.string nm,.slice p n c]] W (XA S J Jx k (n+1) W):=by
 have ZR:=Zf hR;have ZO:=Zf hn;have Wr:=Zf hs;have Yi:=Zf hb;have YM:=Zf h0;have q1:=Zf (fun o:Obj=>Pu l 1 (a:Int) S J Jx k (W.alloc o) (hR.one hs.head (UB hR.lays h0 o)));open Z renaming ahz→Ai in exact vS
-- the chains,by gen/zn.py
theorem aau(l:Nat)(xs:List It)(S:Nat→Prop)(J Jx:Nat→World→Prop)(hR:SZ Zx l xs S J Jx)(a:Nat)(nm t p pk pc)(n c nk ck m cm:Nat)(hn:n≤1048576)(hm:m≤1048576)(k:Nat)(hs:Xp xs k (VN a n m))(W:World)(hb:∀b,S b→b<W.heap.size)(h0:J k W) :
  CallsIn Ze 0 Zx 73 #[yv l,.int .i64 (a:Int),.agg #[.string nm,.slice p n c,.string t,.slice pk nk ck,.slice pc m cm]] W (XA S J Jx k (n+m+2) W):=by
 open Z renaming aig→Je in exact II
theorem aaw(l:Nat)(xs:List It)(S:Nat→Prop)(J Jx:Nat→World→Prop)(hR:SZ Zx l xs S J Jx)(a:Nat)(nm dn p pk pc)(n c m cm dl dc:Nat)(hn:n≤1048576)(hm:m≤1048576)(k:Nat)(hs:Xp xs k (VG a n m))(W:World)(hb:∀b,S b→b<W.heap.size)(h0:J k W) :
  CallsIn Ze 0 Zx 77 #[yv l,.int .i64 (a:Int),.agg #[.string nm,.slice p n c,.slice pk m cm,.string dn,.slice pc dl dc]] W (XA S J Jx k (n+m+2) W):=by
 open Z renaming aih→Je in exact II
theorem aP(l:Nat)(xs:List It)(S:Nat→Prop)(J Jx:Nat→World→Prop)(hR:SZ Zx l xs S J Jx)(a:Nat)(nm p pk)(n c m cm:Nat)(ys:List It)(hn:n≤1048576)(k:Nat)(hs:Xp xs k (.num 8 a 0 :: (Wu 9 a n++ys)))(W:World)(hb:∀b,S b→b<W.heap.size)(h0:J k W)(hbl:∀(k':Nat) (W1:World),Kq S W W1→Xp xs k' ys→J k' W1→CallsIn Ze 0 Zx 78 #[yv l,.int .i64 (a:Int),.slice pk m cm] W1 (XA S J Jx k' ys.length W1)) :
  CallsIn Ze 0 Zx 75 #[yv l,.int .i64 (a:Int),.agg #[.string nm,.slice p n c,.slice pk m cm]] W (XA S J Jx k (n+ys.length+1) W):=by
 have ZR:=Zf hR;have Wr:=Zf hs;have Yi:=Zf hb;have ZO:=Zf hn;have t1:=hs.tail.right;rw[Q1]at t1;have t1':=Zf t1;have hbl':=Zf hbl;clear t1 hn hbl;have q1:=Zf (fun o:Obj=>Pu l 8 (a:Int) S J Jx k (W.alloc o) (hR.one hs.head (UB hR.lays h0 o)));open Z renaming ahP→An in exact vZ
open Go.RowKit Go.Shelf
attribute [local go_sem] Oper.semAt_some
mutual
/-- The items of a statement: its own,then those of its blocks. -/
def St.enc(a:Int):St→List It
 | .mk k hd nm e p c l q c2 l2=>.st a (.mk k hd nm e p c l q c2 l2) :: (St.encs a l++St.encs a l2)
def St.encs(a:Int):List St→List It
 | []=>[]
 | s :: l=>s.enc a++St.encs a l
end
theorem St.enc_eq(a:Int)(s:St):s.enc a=.st a s :: (St.encs a s.thn++St.encs a s.els):=by cases s;rw[St.enc];rfl
theorem St.encs_fl(a:Int):∀(l:List St) (b:Nat),St.encs a l=YD (fun _ s=>s.enc a) b l
 | [],_=>by rw[St.encs];rfl
 | s :: l,b=>by rw[St.encs,St.encs_fl a l (b+1)];rfl
theorem St.encs_len(a:Int)(l:List St):(St.encs a l).length=(l.map fun s=>(s.enc a).length).sum:=by rw[St.encs_fl a l 0];exact QP (fun _ s=>St.enc a s) (fun s=>(s.enc a).length) (fun _ _=>rfl) l 0
def Q7(L:Sl St):Prop:=∀(l:Nat) (xs:List It) (S:Nat→Prop) (J Jx:Nat→World→Prop),SZ Zx l xs S J Jx→∀(a:Int) (w:World),(∀b,S b→w.heap.size≤b)→L.In w 14 St.cells (St.In w)→L.size St.sz≤1048576 →
 ∀(k:Nat) (W:World),Kq S w W→(∀b,S b→b<W.heap.size)→Xp xs k (St.encs a L.l)→J k W →
 CallsIn Ze 0 Zx 78 #[yv l,.int .i64 a,L.v] W (XA S J Jx k (St.encs a L.l).length W)
theorem aaa(l:Nat)(S:Nat→Prop)(J Jx:Nat→World→Prop)(hJ:VF J)(a i ZU ZI ZJ Ye Yd Z9 Ya Z5 Z6 Z8 Yb Z7 Yf Z4 Z0 ZW ZZ Z3 ZX Z1)(c d:Nat)(k m n:Nat)(W:World)(hb:∀b,S b→b<W.heap.size)(h0:J k W)(hc:∀W1,Kq S W W1→W1.cell? ⟨c,0,none⟩=some (yv l))(hd:∀W1,Kq S W W1→W1.cell? ⟨d,0,none⟩=some (.int .i64 a))(hy:∀W1,J k W1→YieldAt Ze 0 Zx l #[.agg #[.int .u8 10,.int .i64 a,.int .i64 0,.int .u8 ZU,.string ZI,.string ZJ,.int .u8 Ye,.int .i64 Yd,.int .u64 Z9,.int .u64 Ya,.string Z5,.string Z6,.int .i64 Z8,.int .i64 Yb,.slice Z7 Yf Z4,.slice Z0 ZW ZZ,.slice Z3 ZX Z1]] W1 (XA S J Jx k 1 W1))(h1:∀W1,Kq S W W1→J (k+1) W1→CallsIn Ze 0 Zx 78 #[yv l,.int .i64 a,.slice Z0 ZW ZZ] W1 (XA S J Jx (k+1) m W1))(h2:∀W1,Kq S W W1→J (k+1+m) W1→CallsIn Ze 0 Zx 78 #[yv l,.int .i64 a,.slice Z3 ZX Z1] W1 (XA S J Jx (k+1+m) n W1)) :
  CallsIn Ze 0 Zx 146 #[.int .i64 i,.agg #[.int .u8 ZU,.string ZI,.string ZJ,.int .u8 Ye,.int .i64 Yd,.int .u64 Z9,.int .u64 Ya,.string Z5,.string Z6,.int .i64 Z8,.int .i64 Yb,.slice Z7 Yf Z4,.slice Z0 ZW ZZ,.slice Z3 ZX Z1],.pointer (some ⟨c,0,none⟩),.pointer (some ⟨d,0,none⟩)] W (XA S J Jx k (1+(m+n)) W):=by
 have Yi:=Zf hb;have YA:=Zf h1;have Xg:=Zf h2;have Yo:=Zf hc;have hd':=Zf hd;have hy':=Zf (fun o:Obj=>hy (W.alloc o) (UB hJ h0 o));have c0:=fun o:Obj=>hc (W.alloc o) (Kq.alloc S W o);have d0:=fun o:Obj=>hd (W.alloc o) (Kq.alloc S W o);open Z renaming adI→BO in exact wQ
theorem xD(V:World)(x y:Value)(t u:TypeId):((V.alloc (.cells #[x] t)).alloc (.cells #[y] u)).cell? ⟨V.heap.size,0,none⟩=some x∧((V.alloc (.cells #[x] t)).alloc (.cells #[y] u)).cell? ⟨V.heap.size+1,0,none⟩=some y∧((V.alloc (.cells #[x] t)).alloc (.cells #[y] u)).heap.size=V.heap.size+1+1:=by
 obtain⟨W,hW,-,hs,ca,cb,-,-⟩:=QM V #[x] #[y] t u;have a:=ca 0 _ rfl ⟨#[],W.drawn⟩;have b:=cb 0 _ rfl ⟨#[],W.drawn⟩;rw[Yk]at a b;rw[←hW];exact⟨a,b,hs⟩
theorem Eu(L:Sl St)(ih:∀x∈L.l,Q7 x.thnS∧Q7 x.elsS):Q7 L:=by
 intro l xs S J Jx hR a w hS ZF hz k W hw hb hs h0;have XQ:=Xk St.sz St.sz_pos L hz;obtain⟨c,hc⟩:=ZB W.heap.size;have hmain:∀V,Kq S W V→V.cell? ⟨c,0,none⟩=some (yv l)→V.cell? ⟨c+1,0,none⟩=some (.int .i64 a)→c+1<V.heap.size→J k V →
   CallsIn Ze 0 Zx 145 #[L.v,.func (.func 146) #[] #[.pointer (some ⟨c,0,none⟩),.pointer (some ⟨c+1,0,none⟩)]] V (XA S J Jx k (St.encs a L.l).length V):=by
  intro V hV hc1 hc2 YB hJk;rw[St.encs_len];have hbV:∀b,S b→b<V.heap.size:=fun b h=>Zu (hb b h) hV.size;have hnc:¬S c:=fun h=>Nat.lt_irrefl _ (hc▸hb c h);have hnd:¬S (c+1):=fun h=>by have:=hb _ h;omega
  have hsf:Xp xs k (YD (fun _ s=>St.enc a s) 0 L.l):=by rw[←St.encs_fl];exact hs
  refine lm St.cells Ee (fun s=>(St.enc a s).length) 146 #[] #[.pointer (some ⟨c,0,none⟩),.pointer (some ⟨c+1,0,none⟩)] (St.In w) S J Jx hR.lays w hS L ZF XQ (enters_of func146 asC rfl) k V (hw.trans hV) hbV hJk ?_;intro i x W1 hx hK Xq;have ZV:x∈L.l:=Zo hx;have hxz:x.sz≤1048576:=Nat.le_trans (YW St.sz L.l x ZV) hz;have h1z:=St.sz_eq x;have Ow:=ZF.kids x ZV;have sx:Xp xs (k+Xd (fun s=>(St.enc a s).length) L.l i) (St.enc a x):=Xp.at (fun _ s=>St.enc a s) (fun s=>(St.enc a s).length) (fun _ _=>rfl) L.l k 0 i x hsf hx;rw[St.enc_eq]at sx;have hwV:Kq S w W1:=(hw.trans hV).trans hK;have UM:∀b,S b→b<W1.heap.size:=fun b h=>Zu (hbV b h) hK.size;have q:=aaa l S J Jx hR.lays a (i:Int) x.kind x.head x.name x.e.op x.e.lit.w x.e.lit.h x.e.lit.l x.e.head x.e.name x.e.hi x.e.lo x.e.p x.e.args.length x.e.cap x.p x.thn.length x.cap x.q x.els.length x.cbp c (c+1) (k+Xd (fun s=>(St.enc a s).length) L.l i) (St.encs a x.thn).length (St.encs a x.els).length W1 UM Xq
   (fun W2 h=>(hK.trans h).cell _ _ hnc hc1) (fun W2 h=>(hK.trans h).cell _ _ hnd hc2)
   (fun W2 h=>hR.next _ (.st a x) W2 sx.head h)
   (fun W2 h hj=>(ih x ZV).1 l xs S J Jx hR a w hS (St.In.inThn Ow) (show (x.thn.map St.sz).sum≤_ by omega) _ W2 (hwV.trans h) (fun b hb=>Zu (UM b hb) h.size) sx.tail.left hj)
   (fun W2 h hj=>(ih x ZV).2 l xs S J Jx hR a w hS (St.In.inEls Ow) (show (x.els.map St.sz).sum≤_ by omega) _ W2 (hwV.trans h) (fun b hb=>Zu (UM b hb) h.size) sx.tail.right hj)
  rw[show (St.enc a x).length=1+((St.encs a x.thn).length+(St.encs a x.els).length) by rw[St.enc_eq];simp;omega];exact q
 open Z renaming ae1→BS in exact vi
theorem aac:∀s:St,Q7 s.thnS∧Q7 s.elsS:=fun s=>St.ind (Q:=fun s=>Q7 s.thnS∧Q7 s.elsS) (fun s h1 h2=>⟨Eu s.thnS fun x hx=>h1 x hx,Eu s.elsS fun x hx=>h2 x hx⟩) s
theorem Cw(L:Sl St):Q7 L:=Eu L fun x _=>aac x
open Go.RowKit Go.Shelf
attribute [local go_sem] Oper.semAt_some
theorem St.enc_len(a b:Int):∀s:St,(s.enc a).length=(s.enc b).length:=fun s=>St.ind (Q:=fun s=>(s.enc a).length=(s.enc b).length) (fun s h1 h2=>by
 rw[St.enc_eq,St.enc_eq,Zk,Zk,Zj,Zj,St.encs_len,St.encs_len,St.encs_len,St.encs_len,List.map_congr_left h1,List.map_congr_left h2]) s
theorem St.encs_len2(a b:Int)(l:List St):(St.encs a l).length=(St.encs b l).length:=by rw[St.encs_len,St.encs_len,List.map_congr_left fun s _=>St.enc_len a b s]
def Td(a:Nat)(x:Ac):List It:=.num 8 a 0 :: (Wu 9 a x.params.l.length++St.encs (a:Int) x.body.l)
def QY(x:Ac):Nat:=x.params.l.length+(St.encs 0 x.body.l).length+1
theorem HY(a:Nat)(x:Ac):(Td a x).length=QY x:=by simp[Td,QY,Q1,St.encs_len2 (a:Int) 0 x.body.l]
def OG(x:Hr):Nat:=x.fields.l.length+1
theorem H0(a:Nat)(x:Hr):(Up a x.fields.l.length).length=OG x:=by simp[Up,OG,Q1]
def OH(x:Sa):Nat:=x.takes.l.length+x.cases.l.length+2
theorem H1(a:Nat)(x:Sa):(VN a x.takes.l.length x.cases.l.length).length=OH x:=by simp[VN,OH,Q1];omega
def OI(x:Ta):Nat:=x.keys.l.length+x.actions.l.length+2
theorem H4(a:Nat)(x:Ta):(VG a x.keys.l.length x.actions.l.length).length=OI x:=by simp[VG,OI,Q1];omega
def e1(p:Pr):List It:=YD (fun a h=>Up a h.fields.l.length) 0 p.headers.l
def e2(p:Pr):List It:=YD (fun a (_:Fd)=>[.num 3 a 0]) 0 p.metas.l
def e3(p:Pr):List It:=YD (fun a s=>VN a s.takes.l.length s.cases.l.length) 0 p.states.l
def e4(p:Pr):List It:=YD Td 0 p.actions.l
def e5(p:Pr):List It:=YD (fun a x=>VG a x.keys.l.length x.actions.l.length) 0 p.tables.l
def e6(p:Pr):List It:=St.encs (-1) p.control.l
def e7(p:Pr):List It:=YD (fun a (_:ByteArray)=>[.num 15 a 0]) 0 p.emit.l
def Yh(p:Pr):List It:=e1 p++(e2 p++(e3 p++(e4 p++(e5 p++(e6 p++e7 p)))))
theorem CM(V:World)(x:Value)(t:TypeId):(V.alloc (.cells #[x] t)).cell? ⟨V.heap.size,0,none⟩=some x:=by
 obtain⟨W,hW,-,hs,ca,-⟩:=WS V #[x] t;have a:=ca 0 _ rfl ⟨#[],W.drawn⟩;rw[Yk]at a;rw[←hW];exact a
theorem iQ(l:Nat)(xs:List It)(S:Nat→Prop)(J Jx:Nat→World→Prop)(hR:SZ Zx l xs S J Jx)(a:Nat)(nm w0)(c k:Nat)(W:World)(hs:xs[k]?=some (.num 3 a 0))(hc:W.cell? ⟨c,0,none⟩=some (yv l))(h0:J k W) :
  CallsIn Ze 0 Zx 70 #[.int .i64 (a:Int),.agg #[.string nm,.int .i64 w0],.pointer (some ⟨c,0,none⟩)] W (XA S J Jx k 1 W):=by
 have q1:=Zf (fun o:Obj=>Pu l 3 (a:Int) S J Jx k (W.alloc o) (hR.one hs (UB hR.lays h0 o)));open Z renaming ag4→Af in exact vO
theorem ly(l:Nat)(xs:List It)(S:Nat→Prop)(J Jx:Nat→World→Prop)(hR:SZ Zx l xs S J Jx)(a:Nat)(nm)(c k:Nat)(W:World)(hs:xs[k]?=some (.num 15 a 0))(hc:W.cell? ⟨c,0,none⟩=some (yv l))(h0:J k W) :
  CallsIn Ze 0 Zx 80 #[.int .i64 (a:Int),.string nm,.pointer (some ⟨c,0,none⟩)] W (XA S J Jx k 1 W):=by
 have q1:=Zf (Pu l 15 (a:Int) S J Jx k W (hR.one hs h0));exact us
theorem jf(l:Nat)(S:Nat→Prop)(J Jx:Nat→World→Prop)(hJ:VF J)(p0 s0 c0 p1 s1 c1 p2 s2 c2 p3 s3 c3 p4 s4 c4 p5 s5 c5 p6 s6 c6)(n0 n1 n2 n3 n4 n5 n6:Nat)(k:Nat)(pb:Nat)(W:World)(hb:∀b,S b→b<W.heap.size)(Xx:¬S pb)(hp:Yg W ⟨pb,0,none⟩ [.slice p0 s0 c0,.slice p1 s1 c1,.slice p2 s2 c2,.slice p3 s3 c3,.slice p4 s4 c4,.slice p5 s5 c5,.slice p6 s6 c6])(h0:J k W)(q0:∀V,Kq S W V→V.cell? ⟨W.heap.size,0,none⟩=some (yv l)→J (k) V→CallsIn Ze 0 Zx 67 #[.slice p0 s0 c0,.func (.func 68) #[yv l] #[]] V (XA S J Jx (k) n0 V))(q1:∀V,Kq S W V→V.cell? ⟨W.heap.size,0,none⟩=some (yv l)→J (k+n0) V→CallsIn Ze 0 Zx 69 #[.slice p1 s1 c1,.func (.func 70) #[] #[.pointer (some ⟨W.heap.size,0,none⟩)]] V (XA S J Jx (k+n0) n1 V))(q2:∀V,Kq S W V→V.cell? ⟨W.heap.size,0,none⟩=some (yv l)→J (k+n0+n1) V→CallsIn Ze 0 Zx 72 #[.slice p2 s2 c2,.func (.func 73) #[yv l] #[]] V (XA S J Jx (k+n0+n1) n2 V))(q3:∀V,Kq S W V→V.cell? ⟨W.heap.size,0,none⟩=some (yv l)→J (k+n0+n1+n2) V→CallsIn Ze 0 Zx 74 #[.slice p3 s3 c3,.func (.func 75) #[yv l] #[]] V (XA S J Jx (k+n0+n1+n2) n3 V))(q4:∀V,Kq S W V→V.cell? ⟨W.heap.size,0,none⟩=some (yv l)→J (k+n0+n1+n2+n3) V→CallsIn Ze 0 Zx 76 #[.slice p4 s4 c4,.func (.func 77) #[yv l] #[]] V (XA S J Jx (k+n0+n1+n2+n3) n4 V))(q5:∀V,Kq S W V→V.cell? ⟨W.heap.size,0,none⟩=some (yv l)→J (k+n0+n1+n2+n3+n4) V→CallsIn Ze 0 Zx 78 #[yv l,.int .i64 (-1),.slice p5 s5 c5] V (XA S J Jx (k+n0+n1+n2+n3+n4) n5 V))(q6:∀V,Kq S W V→V.cell? ⟨W.heap.size,0,none⟩=some (yv l)→J (k+n0+n1+n2+n3+n4+n5) V→CallsIn Ze 0 Zx 79 #[.slice p6 s6 c6,.func (.func 80) #[] #[.pointer (some ⟨W.heap.size,0,none⟩)]] V (XA S J Jx (k+n0+n1+n2+n3+n4+n5) n6 V)) :
  CallsIn Ze 0 Zx 66 #[yv l,.pointer (some ⟨pb,0,none⟩)] W (fun e w'=>(∃v,e=.returned v)∧((J (k+n0+n1+n2+n3+n4+n5+n6) w'∧Kq S W w')∨∃i,Jx i w')):=by
 open Z renaming akU→A3 in exact tu
theorem jd(l:Nat)(p:Pr)(S:Nat→Prop)(J Jx:Nat→World→Prop)(hR:SZ Zx l (Yh p) S J Jx)(w:World)(hS:∀b,S b→w.heap.size≤b)(ZF:p.In w)(hz:p.sz≤1048576)(pb:Nat)(W:World)(hw:Kq S w W)(hb:∀b,S b→b<W.heap.size)(Xx:¬S pb)(hp:Yg W ⟨pb,0,none⟩ p.cells)(h0:J 0 W) :
  CallsIn Ze 0 Zx 66 #[yv l,.pointer (some ⟨pb,0,none⟩)] W (fun e w'=>(∃v,e=.returned v)∧((J (Yh p).length w'∧Kq S W w')∨∃i,Jx i w')):=by
 have hs:Xp (Yh p) 0 (Yh p):=fun j x h=>by rw[Zv];exact h
 obtain⟨i0,i1,i2,i3,i4,i5,i6⟩:=ZF;have z:=hz;unfold Pr.sz at z;have Xb:∀V,Kq S W V→∀b,S b→b<V.heap.size:=fun V h b q=>Zu (hb b q) h.size;have W7:¬S W.heap.size:=fun h=>Nat.lt_irrefl _ (hb _ h);open Z renaming arB→zG in exact pZ
open Go.RowKit Go.Shelf
theorem HM{W:World}{a:Addr}{o:Obj}(h:W.heap[a.block]?=some o)(ho:o.isCells=false):W.cell? a=none:=by
 unfold World.cell?;rw[h];cases o <;> first|rfl|(exact absurd ho (by simp[Obj.isCells]))
theorem MZ{W:World}{l:Nat}{o o':Obj}(h:W.heap[l]?=some o)(ho:o.isCells=false)(ho':o'.isCells=false)(a:Addr):(W.putObj l o').cell? a=W.cell? a:=by
 have ZC:l<W.heap.size:=(Array.getElem?_eq_some_iff.1 h).1;by_cases e:a.block=l
 ·rw[HM (by rw[e];exact World.putObj_heap_same ZC) ho',HM (by rw[e];exact h) ho]
 ·unfold World.cell?
  rw[World.putObj_heap_other e]
theorem Kq.putObj{S:Nat→Prop}{W:World}{l:Nat}{o:Obj}(o':Obj)(h:W.heap[l]?=some o)(ho:o.isCells=false)(ho':o'.isCells=false)(hs:S l):Kq S W (W.putObj l o'):=⟨asD,fun a v _ hv=>(MZ h ho ho' a).trans hv,fun B hb hB=>(Zb B W).grown (grownBy_putObj' W l o') hb (fun k e=>by cases e;exact hB l hs)⟩
theorem Kq.mono{S T:Nat→Prop}{W W':World}(h:Kq S W W')(hs:∀b,S b→T b):Kq T W W':=⟨h.size,fun a v n=>h.cell a v (fun q=>n (hs _ q)),fun B hb hB=>h.low B hb (fun b q=>hB b (hs b q))⟩
theorem UN{W:World}{k:Nat}{o:Obj}(h:W.heap[k]?=some o)(y:ZH):(plus W y).heap[k]?=some o :=
 ((Xl W y).block k (Array.getElem?_eq_some_iff.1 h).1).trans h
def iX(B:Nat)(S:Nat→Prop)(I:Nat→World→Prop)(Ix:World→Prop)(k:Nat)(W:World):Exit→Act→World→Prop
 | .normal,_,W'=>KeepsFrom B W W'∧Kq S W W'∧I (k+1) W'
 | .ret,_,W'=>KeepsFrom B W W'∧Ix W'
 | _,_,_=>False
theorem abe{P:Program}{g:Operand}{ps:Array Tmp}{assign body:Code}{Q:Exit→Act→World→Prop}{a:Act}{w:World}{gf:Nat}{lb:Array Value}(hg:a.eval g=.func (.func gf) #[] lb)(eg:∀args w,(callFunc gf args).run P w=.ok (.enter gf args) w){α:Type}(xs:List α)(encs:α→Value)(S:Nat→Prop)(hseq:∀(l:Nat) (J Jx:Nat→World→Prop) (W:World),w.heap.size≤l→l<W.heap.size→Kq (fun b=>b=l) w W→VF J→Cj P l encs xs (fun b=>S b∨b=l) J Jx→J 0 W→CallsIn Ze 0 P gf (#[.func (.yield l) #[] #[]]++lb) W fun e W'=>(∃v,e=.returned v)∧((J xs.length W'∧Kq (fun b=>S b∨b=l) W W')∨∃i,Jx i W'))(hps:ps.size=1)(I:Nat→World→Prop)(Ix:World→Prop)(hI:∀k l W W',w.heap.size≤l→I k W→Kq (fun b=>b=l) W W'→I k W')(hIx:∀l W W',w.heap.size≤l→Ix W→Kq (fun b=>b=l) W W'→Ix W')(h0:I 0 w)(hround:∀(l k:Nat) (x:α) (W:World),w.heap.size≤l→l<W.heap.size→xs[k]?=some x→I k W→assign.wpIn (Ze.inRound l) 0 P (Exit.then (fun a' W'=>KeepsFrom w.heap.size W W'∧Kq S W W'∧∀W2,Kq (fun b=>b=l) W' W2→W2.heap.size=W'.heap.size→body.wpIn (Ze.inRound l) 0 P (iX w.heap.size S I Ix k W2) a' W2) (fun _ _ _=>False)) { tmps:=(ps.zip #[encs x]).foldl (fun t (p,v)=>t.setIfInBounds p v) a.tmps,defers:=[] } W)(hdone:∀(D:Nat) (W:World),w.heap.size≤D→I xs.length W→W.heap[D]?=some (.deferred (some []))→Q .normal { a with defers:={ target:=.collected D,args:=#[] } :: a.defers } W)(hstop:∀(D:Nat) (W:World),w.heap.size≤D→Ix W→W.heap[D]?=some (.deferred (some []))→Code.ret.wpIn Ze 0 P Q { a with defers:={ target:=.collected D,args:=#[] } :: a.defers } W) :
  (Code.rangeFunc g ps assign body).wpIn Ze 0 P Q a w:=by
 open Z renaming ae3→BT in exact vj
open Go.RowKit Go.Shelf
structure Bx where
 f:Nat→Prop
 base:Nat
def QC(W:World)(b:Nat):Prop:=∃cur fz,W.heap[b]?=some (.cells cur 49 fz)
def Bx.s(S:Bx)(W:World)(b:Nat):Prop:=S.f b∨(S.base≤b∧QC W b)
def Bx.over(S:Bx)(n:Nat):Prop:=n≤S.base∧∀b,S.f b→n≤b
theorem QC.lt{W:World}{b:Nat}(h:QC W b):b<W.heap.size:=by
 obtain⟨cur,fz,h⟩:=h;exact (Array.getElem?_eq_some_iff.1 h).1
theorem QC.same{W W':World}{b:Nat}(h:QC W' b)(e:W'.heap[b]?=W.heap[b]?):QC W b:=by
 obtain⟨cur,fz,h⟩:=h;exact⟨cur,fz,e▸h⟩
theorem QC.setCell{W:World}{p:Addr}{v:Value}{b:Nat}(h:QC (W.setCell p v) b):QC W b:=by
 by_cases e:b=p.block
 ·obtain⟨cur,fz,h⟩:=h
  subst e;simp only[World.setCell,Array.getElem?_modify,if_true]at h;cases hw:W.heap[p.block]? with
  | none=>rw[hw]at h;cases h
  | some o =>
   rw[hw]at h;cases o with
   | cells c t z =>
    simp only[Option.map_some,Option.some.injEq,Obj.cells.injEq]at h;obtain⟨-,rfl,-⟩:=h;exact⟨_,_,hw⟩
   | _=>simp at h
 ·exact h.same (Below.heap_setCell W p v b e)
structure Kr (S:Bx) (W W':World):Prop where
 size:W.heap.size≤W'.heap.size
 cell:∀a v,¬S.s W a.block→W.cell? a=some v→W'.cell? a=some v
 new:∀b,S.s W' b→S.s W b∨W.heap.size≤b
 low:∀B,B≤W.heap.size→(∀b,S.s W b→B≤b)→Below B W W'
theorem Kr.refl(S:Bx)(W:World):Kr S W W:=⟨Zt _,fun _ _ _ h=>h,fun _ h=>.inl h,fun B _ _=>Zb B W⟩
theorem Kr.trans{S:Bx}{A B C:World}(h:Kr S A B)(k:Kr S B C):Kr S A C :=
 ⟨Nat.le_trans h.size k.size,fun a v hs hv=>k.cell a v (fun q=>by
   rcases h.new _ q with q|q
   ·exact hs q
   ·have:=World.block_lt_of_cell? A a hv;omega) (h.cell a v hs hv),
  fun b q=>by
   rcases k.new _ q with q|q
   ·exact h.new _ q
   ·exact .inr (Nat.le_trans h.size q),
  fun b hb hs=>(h.low b hb hs).trans (k.low b (Nat.le_trans hb h.size) fun c q=>by
   rcases h.new _ q with q|q
   ·exact hs _ q
   ·omega)⟩
theorem Kr.of{S:Bx}{W W':World}(hs:W.heap.size≤W'.heap.size)(hb:∀b,b<W.heap.size→W'.heap[b]?=W.heap[b]?∨(S.s W b))(hl:∀B,B≤W.heap.size→(∀b,S.s W b→B≤b)→Below B W W'):Kr S W W' :=
 ⟨hs,fun a v q h=>by
  rcases hb a.block (World.block_lt_of_cell? W a h) with e|e
  ·exact (World.cell?_of_block e).trans h
  ·exact absurd e q,
  fun b q=>by
   by_cases ZC:b<W.heap.size
   ·rcases hb b ZC with e|e
    ·rcases q with q|⟨q,r⟩
     ·exact .inl (.inl q)
     ·exact .inl (.inr ⟨q,r.same e⟩)
    ·exact .inl e
   ·exact .inr (Nat.le_of_not_lt ZC),hl⟩
theorem Kr.plus(S:Bx)(W:World)(y:ZH):Kr S W (plus W y):=.of (by have:=XZ W y;omega) (fun b h=>.inl ((Xl W y).block b h)) fun _ hb _=>(Xl W y).mono hb
theorem Kr.alloc(S:Bx)(W:World)(o:Obj):Kr S W (W.alloc o):=.of asD (fun b h=>.inl (Below.heap_alloc W o b h)) fun B hb _=>(Zb B W).alloc hb o
theorem Kr.setCell{S:Bx}(W:World)(p:Addr)(v:Value)(h:S.f p.block):Kr S W (W.setCell p v):=.of (by rw[World.size_setCell];exact Zt _) (fun b _=>by
 by_cases e:b=p.block
 ·exact .inr (.inl (e▸h))
 ·exact .inl (Below.heap_setCell W p v b e)) fun B _ hs=>(Zb B W).setCell (hs _ (.inl h)) v
theorem Kr.grown{S:Bx}{W W':World}{row:Option Nat}(h:W.grownBy W' row)(hr:∀g,row=some g→S.base≤g∧QC W g):Kr S W W':=.of h.size (fun b hb=>by
 by_cases e:some b=row
 ·exact .inr (.inr (hr b e.symm))
 ·exact .inl (h.block b hb e)) fun B hb hs=>(Zb B W).grown h hb fun k e=>hs k (.inr (hr k e))
theorem Kr.putObj{S:Bx}{W:World}{l:Nat}{o:Obj}(o':Obj)(_:W.heap[l]?=some o)(hs:S.f l):Kr S W (W.putObj l o'):=.of asD (fun b _=>by
 by_cases e:b=l
 ·exact .inr (.inl (e▸hs))
 ·exact .inl (World.putObj_heap_other e)) fun B hb hB=>(Zb B W).grown (grownBy_putObj' W l o') hb (fun k e=>by cases e;exact hB l (.inl hs))
theorem Kr.mono{S T:Bx}{W W':World}(h:Kr S W W')(hs:∀V b,S.s V b→T.s V b)(ht:∀b,T.s W' b→¬S.s W' b→T.s W b∨W.heap.size≤b):Kr T W W' :=
 ⟨h.size,fun a v n=>h.cell a v (fun q=>n (hs _ _ q)),fun b q=>by
  by_cases r:S.s W' b
  ·rcases h.new b r with r|r
   ·exact .inl (hs _ _ r)
   ·exact .inr r
  ·exact ht b q r,fun B hb hB=>h.low B hb (fun b q=>hB b (hs _ _ q))⟩
section
variable {S:Bx} {w W:World} (hk:Kr S w W) (hS:S.over w.heap.size)
include hk hS
theorem jC{a:Addr}{v:Value}(h:w.cell? a=some v):W.cell? a=some v:=hk.cell a v (fun hs=>by
 have h2:=World.block_lt_of_cell? w a h;rcases hs with hs|⟨hs,_⟩
 ·have:=hS.2 _ hs;omega
 ·have:=hS.1;omega) h
theorem Fk{a:Addr}{cs:List Value}(h:Yg w a cs):Yg W a cs:=fun j v hj=>jC hk hS (h j v hj)
end
theorem yh{S:Bx}{V:World}(hb:∀b,S.f b→b<V.heap.size)(c:Array Value)(t:TypeId)(ht:t≠49):¬S.s (V.alloc (.cells c t)) V.heap.size:=by
 rintro (h|⟨_,cur,fz,h⟩)
 ·exact Nat.lt_irrefl _ (hb _ h)
 ·rw[World.alloc_heap_new]at h
  simp only[Option.some.injEq,Obj.cells.injEq]at h;exact ht h.2.1
theorem QO{S:Bx}{V W:World}(hb:∀b,S.f b→b<V.heap.size)(c:Array Value)(t:TypeId)(hk:Kr S (V.alloc (.cells c t)) W)(o:Nat)(v:Value)(h:c[o]?=some v) (ht:t≠49:=by decide):W.cell? ⟨V.heap.size,o,none⟩=some v :=
 hk.cell _ _ (yh hb c t ht) ((YI V c t _ o rfl).trans h)
structure T7 (S:Bx) (V:World) (b:Nat) (v:Value):Prop where
 cell:V.cell? ⟨b,0,none⟩=some v
 no:¬S.s V b
theorem T7.up{S:Bx}{V W:World}{b:Nat}{v:Value}(h:T7 S V b v)(hb:b<V.heap.size)(hk:Kr S V W):T7 S W b v:=⟨hk.cell _ _ h.no h.cell,fun q=>by
 rcases hk.new b q with q|q
 ·exact h.no q
 ·omega⟩
theorem JK{S:Bx}{V:World}(hb:∀b,S.f b→b<V.heap.size)(W:World)(e:W=V)(v:Value)(t:TypeId) (ht:t≠49:=by decide):T7 S (W.alloc (.cells #[v] t)) W.heap.size v:=by
 subst e;exact⟨CM _ _ _,yh hb _ _ ht⟩
theorem Nq{S:Bx}{V W:World}(hb:∀b,S.f b→b<V.heap.size)(v:Value)(t:TypeId)(hk:Kr S (V.alloc (.cells #[v] t)) W) (ht:t≠49:=by decide):T7 S W V.heap.size v :=
 (JK hb V rfl v t ht).up asD hk
def XB(S:Bx)(J Jx:Nat→World→Prop)(k m:Nat)(W:World)(e:Ending)(W':World):Prop :=
 (e=.returned (.bool true)∧J (k+m) W'∧Kr S W W')∨(e=.returned (.bool false)∧∃i,Jx i W')
def Ck{α:Type}(P:Program)(l:Nat)(encs:α→Value)(xs:List α)(S:Bx)(J Jx:Nat→World→Prop):Prop :=
 ∀(k:Nat) (x:α) (W:World),xs[k]?=some x→J k W→YieldAt Ze 0 P l #[encs x] W (XB S J Jx k 1 W)
open Go.RowKit Go.Shelf
attribute [local go_sem] Oper.semAt_some
theorem Pv(l:Nat)(kind a:Int)(S:Bx)(J Jx:Nat→World→Prop)(k:Nat)(W:World)(hy:YieldAt Ze 0 Zx l #[RL kind a 0] W (XB S J Jx k 1 W)) :
  CallsIn Ze 0 Zx 71 #[yv l,.int .u8 kind,.int .i64 a] W (XB S J Jx k 1 W):=by
 exact vV
theorem XB.trans{S:Bx}{J Jx:Nat→World→Prop}{k m n:Nat}{A B:World}{e:Ending}{C:World}(hk:Kr S A B)(h:XB S J Jx (k+m) n B e C):XB S J Jx k (m+n) A e C:=by
 exact vX
theorem Mc(l:Nat)(kind a:Int)(n:Nat)(hn:n≤1048576)(S:Bx)(J Jx:Nat→World→Prop)(k:Nat)(W:World)(hy:∀j W1,j<n→J (k+j) W1→YieldAt Ze 0 Zx l #[RL kind a (j:Int)] W1 (XB S J Jx (k+j) 1 W1))(h0:J k W) :
  CallsIn Ze 0 Zx 144 #[yv l,.int .u8 kind,.int .i64 a,.int .i64 (n:Int)] W (XB S J Jx k n W):=by
 open Z renaming ahX→Ap in exact ud
end Go.Proofs.YtknmeggfokpbjaaGreat

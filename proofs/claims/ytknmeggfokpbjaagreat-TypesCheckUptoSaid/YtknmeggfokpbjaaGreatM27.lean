/-
  WHAT IS PROVED HERE: a part of the proof (made narrower and merged by program; the parts: Zt Wl Du Ef).
-/
import Derived.Test.YtknmeggfokpbjaaGreatM26
import Derived.Test.YtknmeggfokpbjaaGreatM19
import Derived.Test.YtknmeggfokpbjaaGreatM21
import Derived.Test.YtknmeggfokpbjaaGreatM24
import Derived.Test.YtknmeggfokpbjaaGreatM10
set_option maxRecDepth 100000
set_option maxHeartbeats 8000000
set_option linter.all false
namespace Go.Proofs.YtknmeggfokpbjaaGreat
open Z
open Go.RowKit Go.Proofs.Tryz
open Below renaming refl→Zb
open Ending renaming returned→Zd
open Fence renaming wide→Ze
open Lib renaming hid→Zf
open List renaming getElem?_eq_some_iff→Zi,length_append→Zj,length_cons→Zk,length_nil→Zl,map_cons→Zm,mem_of_getElem?→Zo
open Nat renaming le_refl→Zt,zero_add→Zv,zero_le→Zw
open Go.Proofs.Tryz renaming prog→Zx
open Value renaming int→Zz
open Go.RowKit Go.Shelf
attribute [local go_sem] Oper.semAt_some
theorem BC(v:Array Value)(W:World):CallsIn Ze 0 Zx 30 #[.agg v] W (fun e w'=>e=.returned (.func (.func 66) #[] #[.pointer (some ⟨W.heap.size,0,none⟩)])∧w'=W.alloc (.cells v 30)):=by
 refine callsIn_of_wp func30 rfl trivial ?_ rfl;simp only[ntmps30,List.size_toArray,Zk,Zl,Nat.reduceAdd,Nat.reduceSub,Array.replicate_succ,Array.replicate_zero,List.push_toArray,List.append_toArray,List.nil_append,List.cons_append];gi_wp2;go_ret;exact⟨rfl,rfl⟩
abbrev Fu:Nat→Prop:=fun _=>False
theorem Boxed.kq1{W W':World}{l b:Nat}{t:TypeId}{v:Value}(h:Boxed W b t v)(hl:b<l)(k:Kq (fun x=>x=l) W W'):Boxed W' b t v :=
 ((k.low (b+1) (by have:=h.lt;omega) (fun _ e=>asB)).block b asB).trans h
theorem Boxed.plus{W:World}{b:Nat}{t:TypeId}{v:Value}(h:Boxed W b t v)(y:ZH):Boxed (plus W y) b t v:=UN h y
theorem Cp(b j:Nat):(⟨b,0,none⟩:Addr).add j=⟨b,j,none⟩:=by simp[Addr.add];exact fun h=>h.symm
theorem It.shape(z:It):∃kd a b ZU ZI ZJ Ye Yd Z9 Ya Z5 Z6 Z8 Yb Z7 Yf Z4 Z0 ZW ZZ Z3 ZX Z1,z.v=.agg #[.int .u8 kd,.int .i64 a,.int .i64 b,.int .u8 ZU,.string ZI,.string ZJ,.int .u8 Ye,.int .i64 Yd,.int .u64 Z9,.int .u64 Ya,.string Z5,.string Z6,.int .i64 Z8,.int .i64 Yb,.slice Z7 Yf Z4,.slice Z0 ZW ZZ,.slice Z3 ZX Z1]:=by
 cases z
 ·exact⟨_,_,_,_,_,_,_,_,_,_,_,_,_,_,_,_,_,_,_,_,_,_,_,rfl⟩
 ·exact⟨_,_,_,_,_,_,_,_,_,_,_,_,_,_,_,_,_,_,_,_,_,_,_,rfl⟩
theorem aal(V:World)(c:Array Value)(x y:Value)(t u s:TypeId):∃W,((V.alloc (.cells c t)).alloc (.cells #[x] u)).alloc (.cells #[y] s)=W∧(∃z,W=plus V z)∧(∀j v,c[j]?=some v→W.cell? ⟨V.heap.size,j,none⟩=some v)∧Boxed W (V.heap.size+1) u x∧Boxed W (V.heap.size+1+1) s y∧W.heap.size=V.heap.size+1+1+1:=by
 have b2:=(Boxed.new (V.alloc (.cells c t)) u x).alloc (.cells #[y] s);have b3:=Boxed.new ((V.alloc (.cells c t)).alloc (.cells #[x] u)) s y;simp only[World.size_alloc]at b2 b3;exact⟨_,rfl,Yy ((((Zb _ V).alloc (Zt _) _).alloc asD _).alloc asM _),fun j v hj=>YG (YG ((YI V c t _ j rfl).trans hj) _) _,b2,b3,asD⟩
theorem Pz{α:Type}(f g:α→Nat):∀l:List α,(∀x∈l,f x≤2*g x)→(l.map f).sum≤2*(l.map g).sum
 | [],_=>by simp
 | x :: l,h=>by
  have h1:=h x (List.mem_cons_self ..);have h2:=Pz f g l fun y hy=>h y (List.mem_cons_of_mem _ hy);simp only[Zm,List.sum_cons];omega
theorem lA(a:Int):∀s:St,(s.enc a).length≤s.sz:=fun s=>St.ind (Q:=fun s=>(s.enc a).length≤s.sz) (fun s h1 h2=>by
 have e:=St.sz_eq s;rw[St.enc_eq,Zk,Zj,St.encs_len,St.encs_len];have q:∀l:List St,(∀x∈l,(x.enc a).length≤x.sz)→(l.map fun s=>(s.enc a).length).sum≤(l.map St.sz).sum:=fun l=>by
  induction l with
  | nil=>intro _;simp
  | cons x l ih =>
   intro h;have h1:=h x (List.mem_cons_self ..);have h2:=ih fun y hy=>h y (List.mem_cons_of_mem _ hy);simp only[Zm,List.sum_cons];omega
 have q1:=q _ h1;have q2:=q _ h2;omega) s
theorem CV(a:Int)(l:List St):(St.encs a l).length≤2*(l.map St.sz).sum:=by
 rw[St.encs_len];exact Pz _ _ l fun x _=>by have:=lA a x;omega
theorem S9(p:Pr)(hz:p.sz≤1048576):(Yh p).length≤2097152:=by
 unfold Pr.sz Sl.size at hz;open Z renaming ae9→BW in exact vo
theorem FZ(tmps:Array Value)(b c:Nat)(x y:Value)(W:World)(h2:W.cell? ⟨b,0,none⟩=some x)(h3:W.cell? ⟨c,0,none⟩=some y)(t2:tmps.getD 2 undef=.pointer (some ⟨b,0,none⟩))(t3:tmps.getD 3 undef=.pointer (some ⟨c,0,none⟩)) :
  (results Tryz.f17 tmps).run Zx W=.ok (.tuple #[x,y]) W:=by
 have e1:(isAgg 3).run Zx W=.ok false W:=asC;have e2:(isAgg 33).run Zx W=.ok false W:=asC;have l2:(load ⟨b,0,none⟩).run Zx W=.ok x W:=by rw[run_load,h2]
 have l3:(load ⟨c,0,none⟩).run Zx W=.ok y W:=by rw[run_load,h3]
 simp only[Array.getD_eq_getD_getElem?]at t2 t3;simp[results,loadVar,t2,t3,asAddr,Sem.run_bind,e1,e2,l2,l3,Result.andThen]
theorem n9(p:Pr)(w:World)(ZF:p.In w)(hz:p.sz≤1048576)(Ud:Kp Zx w 29 #[.agg #[.slice p.headers.p p.headers.l.length p.headers.cap,.slice p.metas.p p.metas.l.length p.metas.cap,.slice p.states.p p.states.l.length p.states.cap,.slice p.actions.p p.actions.l.length p.actions.cap,.slice p.tables.p p.tables.l.length p.tables.cap,.slice p.control.p p.control.l.length p.control.cap,.slice p.emit.p p.emit.l.length p.emit.cap]] (.bool true)) :
  Kp Zx w 17 #[.agg #[.slice p.headers.p p.headers.l.length p.headers.cap,.slice p.metas.p p.metas.l.length p.metas.cap,.slice p.states.p p.states.l.length p.states.cap,.slice p.actions.p p.actions.l.length p.actions.cap,.slice p.tables.p p.tables.l.length p.tables.cap,.slice p.control.p p.control.l.length p.control.cap,.slice p.emit.p p.emit.l.length p.emit.cap]] (.tuple #[.int .i64 ((Tm p (Yh p) 0).1:Int),.int .i64 (Tm p (Yh p) 0).2]):=by
 intro y0;have ZF:=ZF.plus y0;have Ud:=Ud.up y0;obtain⟨V,hV⟩:=ZB (plus w y0);rw[hV]at ZF Ud ⊢;clear hV;have VR:=Zf ZF;have ND:=Zf Ud;clear ZF Ud;open Z renaming afb→BX in exact vq
def It.cs:It→List Value
 | .num kind a b=>[.int .u8 kind,.int .i64 (a:Int),.int .i64 (b:Int),.int .u8 0,.string ⟨#[]⟩,.string ⟨#[]⟩,.int .u8 0,.int .i64 0,.int .u64 0,.int .u64 0,.string ⟨#[]⟩,.string ⟨#[]⟩,.int .i64 0,.int .i64 0,.slice none 0 0,.slice none 0 0,.slice none 0 0]
 | .st a s=>[.int .u8 10,.int .i64 a,.int .i64 0,.int .u8 s.kind,.string s.head,.string s.name,.int .u8 s.e.op,.int .i64 s.e.lit.w,.int .u64 s.e.lit.h,.int .u64 s.e.lit.l,.string s.e.head,.string s.e.name,.int .i64 s.e.hi,.int .i64 s.e.lo,.slice s.e.p s.e.args.length s.e.cap,.slice s.p s.thn.length s.cap,.slice s.q s.els.length s.cbp]
theorem It.v_cs(z:It):z.v=.agg z.cs.toArray:=by cases z <;> rfl
theorem It.cs_len(z:It):z.cs.length=17:=by cases z <;> rfl
theorem It.cs_one(z:It):∀u∈z.cs,u.oneCell'=true:=by
 intro u hu;cases z <;>
 ·simp only[It.cs,List.mem_cons,List.not_mem_nil,or_false]at hu
  rcases hu with rfl|rfl|rfl|rfl|rfl|rfl|rfl|rfl|rfl|rfl|rfl|rfl|rfl|rfl|rfl|rfl|rfl <;> rfl
theorem BB:(Zx.info? 49).map (fun i=>(i.zero,i.size,i.bytes))=some (some (.agg #[.int .u8 0,.int .i64 0,.int .i64 0,.int .u8 0,.string ⟨#[]⟩,.string ⟨#[]⟩,.int .u8 0,.int .i64 0,.int .u64 0,.int .u64 0,.string ⟨#[]⟩,.string ⟨#[]⟩,.int .i64 0,.int .i64 0,.slice none 0 0,.slice none 0 0,.slice none 0 0]),17,216):=asC
structure XC (w W:World) (v:Value) (l:List It):Prop where
 below:Below w.heap.size w W
 own:W.ownsRow w.heap.size 49 17 v l.length ((l.map It.cs).flatten)
theorem FE(w:World):XC w w (.slice none 0 0) []:=⟨Zb _ _,World.ownsRow_nil _ _ _ _⟩
section
variable {w W W1 W2:World} {v v':Value} {l ys:List It}
theorem XC.more(h:XC w W v l)(VX:W2.ownsRow w.heap.size 49 17 v' (l.length+ys.length) ((l.map It.cs).flatten++(ys.map It.cs).flatten))(hB:Below w.heap.size w W1)(YB:w.heap.size≤W1.heap.size)(hg:W1.grownBy W2 v.ownBlock):XC w W2 v' (l++ys) :=
 ⟨hB.grown hg YB (fun k e=>(h.own.lt k e).1),by rw[Zj,List.map_append,List.flatten_append];exact VX⟩
theorem XC.after(h:XC w W v l)(hB:Below W.heap.size W W2):XC w W2 v l :=
 ⟨h.below.trans (hB.mono h.below.size),by
  obtain⟨hl,h2⟩:=h.own;refine⟨hl,?_⟩;rcases h2 with h2|⟨g,cap,cur,hv,hg,hh,h3,h4,h5,h6⟩
  ·exact .inl h2
  ·exact .inr ⟨g,cap,cur,hv,hg,(hB.block g (Array.getElem?_eq_some_iff.1 hh).1).trans hh,h3,h4,h5,h6⟩⟩
theorem XC.row(h:XC w W v l):∃p c,v=.slice p l.length c∧Xa W 17 It.cs p l:=by
 by_cases hn:0<l.length
 ·obtain⟨g,c,rfl,_,_⟩:=JL h.own hn
  exact⟨_,c,rfl,FF h.own (fun y _=>y.cs_len)⟩
 ·obtain rfl:l=[]:=List.length_eq_zero_iff.1 asB
  rcases h.own.2 with⟨rfl,_⟩|⟨g,cap,cur,rfl,_⟩
  ·exact⟨none,0,rfl,fun i x hx=>by simp at hx⟩
  ·exact⟨_,cap,rfl,fun i x hx=>by simp at hx⟩
theorem XC.plus(h:XC w W v l):∃z,W=plus w z:=Yy h.below
end
section
variable {w W:World} {v:Value} {l:List It} {ops:Array Oper} {rest:List Oper} {o:Oper} {a:Act} {Q:Exit→Act→World→Prop}
theorem RM(h:XC w W v l)(ys:List It)(p:Option Addr)(m c:Nat)(hm:ys.length=m)(Yj:Xa W 17 It.cs p ys)(hgd:o.guard=none)(s x:Operand)(ho:o.op=.call { callee:=.builtin .append,args:=#[s,x],argTypes:=#[36,36] })(hs:a.eval s=v)(hx:a.eval x=.slice p m c)(hb:l.length+m≤100000000)(k:∀v' w',XC w w' v' (l++ys)→wpList Zx ops Q rest (a.put o.dst v') w'):wpList Zx ops Q (o :: rest) a W:=by
 obtain⟨i0,hi0,Ux,WK,Vd⟩:=info_parts BB;subst hm;exact abh hgd s x _ ho w.heap.size 49 i0 _ 17 216 Tryz.underlying36 hi0 Ux WK Vd rfl asE v l.length _ hs h.own p _ c ys It.cs hx rfl Yj (fun y _=>y.cs_len) (fun y _=>y.cs_one)
  (by simp only[maxLen];omega) asB h.below.size fun v' w' h2 h3=>k v' w' (h.more h2 h.below h.below.size h3)
theorem Qu(h:XC w W v l)(z:It)(cs:Array Value)(hc:cs.toList=z.cs)(hgd:o.guard=none)(s x:Operand)(ho:o.op=.call { callee:=.builtin .append,args:=#[s,x],argTypes:=#[36,36] })(hs:a.eval s=v)(hx:a.eval x=.slice (some ⟨W.heap.size,0,none⟩) 1 1)(hb:l.length+1≤100000000)(k:∀v' w',XC w w' v' (l++[z])→wpList Zx ops Q rest (a.put o.dst v') w'):wpList Zx ops Q (o :: rest) a (W.alloc (.cells cs 49)):=by
 have h2:XC w (W.alloc (.cells cs 49)) v l:=h.after ((Zb _ W).alloc (Zt _) _);refine RM h2 [z] _ 1 1 rfl (fun i y hy=>⟨_,rfl,fun j u hu=>?_⟩) hgd s x ho hs hx hb k;obtain⟨rfl,rfl⟩:i=0∧y=z:=by
  exact tm
 exact tz
end
theorem EI(k n:Nat)(h:k<n)(hn:n≤2097152):wrap64 ((k:Int)+1)=((k+1:Nat):Int):=by
 rw[Wv _ asB];simp
theorem eo(kind:Int)(a k:Nat):Wu kind a (k+1)=Wu kind a k++[.num kind a k]:=by
 simp[Wu,List.range_succ]
theorem Ui(kind:Int)(a k:Nat):(Wu kind a k).length=k:=by simp[Wu]
theorem Mf(kind)(a n:Nat)(w:World)(hn:n≤2097152):Calls Zx 24 #[.int .u8 kind,.int .i64 (a:Int),.int .i64 (n:Int)] w fun e w'=>∃v,e=.returned v∧XC w w' v (Wu kind a n):=by
 have ZO:=Zf hn;clear hn;go_enter func24,ntmps24;go_wp2;go_loopw [7,8] (fun ov iv wr=>∃k:Nat,k≤n∧iv=.int .i64 (k:Int)∧XC w wr ov (Wu kind a k)) (fun _ iv _=>n-(intOf iv).toNat)
 case atStart=>exact⟨0,Zw _,rfl,FE w⟩
 case round =>
  obtain⟨k,hk,rfl,hI⟩:=hrel;by_cases ZC:k<n
  ·have hI':=Zf hI
   have a6:=Zf (EI k n ZC ZO.out);clear hI;go_wp2_with (first|(at_builtin;refine Qu hI'.out (.num kind a k) _ rfl rfl _ _ rfl rfl rfl (by have:=ZO.out;rw[Ui];omega) ?_;intro v' w' h2;have Xg:=Zf h2;clear h2));go_roundw
   case rel=>exact⟨k+1,ZC,congrArg (Zz .i64) a6.out,by rw[eo];exact Xg.out⟩
   case measure=>exact Y9 k n ZC a6.out
  ·obtain rfl:k=n:=by omega
   exact tD
open Go.RowKit Go.Shelf
structure Ri where
 k:Int
 a:Int
 b:Int
 s:St
def Ri.cs(r:Ri):List Value:=.int .u8 r.k :: .int .i64 r.a :: .int .i64 r.b :: r.s.cells
theorem Ri.cs_len(r:Ri):r.cs.length=17:=rfl
theorem Ri.cs_one(r:Ri):∀u∈r.cs,u.oneCell'=true:=by
 intro u hu;simp only[Ri.cs,St.cells,List.mem_cons,List.not_mem_nil,or_false]at hu;rcases hu with rfl|rfl|rfl|rfl|rfl|rfl|rfl|rfl|rfl|rfl|rfl|rfl|rfl|rfl|rfl|rfl|rfl <;> rfl
def Nc:St:=.mk 0 ⟨#[]⟩ ⟨#[]⟩ Vl none 0 [] none 0 []
theorem asw(w:World):Nc.In w :=
 .mk _ asE (Zw _) (Zw _) (Cg w) (Zw _) (Zw _) (fun i x h=>by simp[Nc,St.thn]at h) (fun x h=>by simp[Nc,St.thn]at h) (Zw _) (Zw _) (fun i x h=>by simp[Nc,St.els]at h) (fun x h=>by simp[Nc,St.els]at h)
theorem asx:Nc.sz≤1048576:=asE
def It.ri:It→Ri
 | .num k a b=>⟨k,(a:Int),(b:Int),Nc⟩
 | .st a s=>⟨10,a,0,s⟩
theorem It.v_ri(z:It):z.v=.agg z.ri.cs.toArray:=by cases z <;> rfl
structure Ks (z:It) (r:Ri):Prop where
 k:r.k=z.ri.k
 a:r.a=z.ri.a
 b:r.b=z.ri.b
 kind:r.s.kind=z.ri.s.kind
 head:r.s.head=z.ri.s.head
 name:r.s.name=z.ri.s.name
 e:r.s.e.bare=z.ri.s.e.bare
structure Nh (n:Nat) (W:World) (r:Ri):Prop where
 lies:r.s.e.In W
 own:WP n W r.s.e
theorem Nh.keep{n:Nat}{W W':World}{r:Ri}(h:Nh n W r)(hk:∀b cur fz,n≤b→W.heap[b]?=some (.cells cur 45 fz)→W'.heap[b]?=some (.cells cur 45 fz)):Nh n W' r:=by
 obtain⟨h1,h2⟩:=M2 hk _ h.lies h.own;exact⟨h1,h2⟩
structure T6 (B:Nat) (W:World) (v:Value) (xs:List It) (l:List Ri):Prop where
 own:W.ownsRow B 49 17 v l.length ((l.map Ri.cs).flatten)
 like:∀(j:Nat) (z:It) (r:Ri),xs[j]?=some z→l[j]?=some r→Ks z r
 lies:∀r∈l,Nh B W r
theorem JJ{base:Nat}{e:TypeId}{C n:Nat}{v:Value}{xs:List Value}{W W':World}(h:W.ownsRow base e C v n xs)(hk:∀b cur,base≤b→W.heap[b]?=some (.cells cur e (0,0))→v.ownBlock=some b→W'.heap[b]?=W.heap[b]?):W'.ownsRow base e C v n xs:=by
 obtain⟨h1,h2⟩:=h;refine⟨h1,?_⟩;rcases h2 with h2|⟨g,cap,cur,rfl,hg,hh,rest⟩
 ·exact .inl h2
 ·exact .inr ⟨g,cap,cur,rfl,hg,(hk g cur hg hh rfl).trans hh,rest⟩
theorem LB{base:Nat}{e:TypeId}{C n:Nat}{v:Value}{xs:List Value}{W:World}(h:W.ownsRow base e C v n xs){b:Nat}(hb:v.ownBlock=some b):base≤b∧∃cur,W.heap[b]?=some (.cells cur e (0,0)):=by
 rcases h.2 with⟨rfl,_⟩|⟨g,cap,cur,rfl,hg,hh,_⟩
 ·cases hb
 ·simp only[Value.ownBlock,Option.some.injEq]at hb
  subst hb;exact⟨hg,cur,hh⟩
theorem T6.ko{B n:Nat}{W W':World}{v:Value}{xs:List It}{l:List Ri}(h:T6 B W v xs l)(hk:Ko n W W'):T6 B W' v xs l :=
 ⟨JJ h.own fun b cur _ hh _=>(hk.obj b _ hh rfl).trans hh.symm,h.like,fun r hr=>(h.lies r hr).keep fun b cur fz _ hh=>hk.obj b _ hh rfl⟩
theorem T6.base{B C:Nat}{W:World}{v:Value}{xs:List It}{l:List Ri}(h:T6 B W v xs l)(hc:C≤B):T6 C W v xs l :=
 ⟨by
  obtain⟨h1,h2⟩:=h.own;refine⟨h1,?_⟩;rcases h2 with h2|⟨g,cap,cur,hv,hg,rest⟩
  ·exact .inl h2
  ·exact .inr ⟨g,cap,cur,hv,Nat.le_trans hc hg,rest⟩,h.like,fun r hr=>⟨(h.lies r hr).lies,(h.lies r hr).own.mono hc⟩⟩
theorem T6.same{B:Nat}{W W':World}{v:Value}{xs:List It}{l:List Ri}(h:T6 B W v xs l)(T:Nat)(hT:v.ownBlock≠some T)(hE:∀cur fz,W.heap[T]?≠some (.cells cur 45 fz))(hk:∀b,b≠T→b<W.heap.size→W'.heap[b]?=W.heap[b]?):T6 B W' v xs l :=
 ⟨JJ h.own fun b cur _ hh hb=>hk b (fun e=>hT (e▸hb)) (Array.getElem?_eq_some_iff.1 hh).1,h.like,fun r hr=>(h.lies r hr).keep fun b cur fz _ hh=>(hk b (fun e=>hE cur fz (e▸hh)) (Array.getElem?_eq_some_iff.1 hh).1).trans hh⟩
theorem KeepsFrom.grown{B:Nat}{W W':World}{row:Option Nat}(h:W.grownBy W' row)(hr:∀g,row=some g→∃cur e fz,W.heap[g]?=some (.cells cur e fz)):KeepsFrom B W W' :=
 ⟨h.size,fun k o _ hk ho=>(h.block k (Array.getElem?_eq_some_iff.1 hk).1 (fun e=>by
  obtain⟨cur,t,fz,h2⟩:=hr k e.symm;rw[hk]at h2;obtain rfl:=Option.some.inj h2;cases ho)).trans hk⟩
theorem KeepsOthers.from_cells{g:Nat}:∀(vs:List Value) (W:World) (o:Nat),KeepsOthers W (Vt g W o vs)
 | [],_,_=>KeepsOthers.refl _
 | v :: vs,W,o=>(KeepsOthers.setCell W ⟨g,o,none⟩ v).trans (KeepsOthers.from_cells vs _ (o+1))
theorem Kq.from_cells{S:Nat→Prop}{g:Nat}(hg:S g):∀(vs:List Value) (W:World) (o:Nat),Kq S W (Vt g W o vs)
 | [],_,_=>Kq.refl _ _
 | v :: vs,W,o=>(Kq.setCell W ⟨g,o,none⟩ v hg).trans (Kq.from_cells hg vs _ (o+1))
theorem Kq.grown{S:Nat→Prop}{W W':World}{row:Option Nat}(h:W.grownBy W' row)(hr:∀g,row=some g→S g):Kq S W W' :=
 ⟨h.size,fun a v hs hv=>(World.cell?_of_block (h.block a.block (World.block_lt_of_cell? W a hv) (fun e=>hs (hr _ e.symm)))).trans hv,fun B hb hB=>(Zb B W).grown h hb fun k e=>hB k (hr k e)⟩
theorem Ga{g:Nat}{t:TypeId}{z:Nat × Nat}:∀(vs cur:List Value) (W:World) (o:Nat),W.heap[g]?=some (.cells cur.toArray t z)→(Vt g W o vs).heap[g]?=some (.cells (Mh cur o vs).toArray t z)
 | [],_,_,_,h=>h
 | v :: vs,cur,W,o,h=>by
  refine Ga vs (cur.set o v) _ (o+1) ?_;obtain⟨ZC,hk⟩:=Array.getElem?_eq_some_iff.1 h;show (W.heap.modify g _)[g]?=_
  rw[Array.getElem?_eq_getElem (by rw[Array.size_modify];exact ZC),Array.getElem_modify_self,hk];simp
theorem YX{U:World}{b j:Nat}{cur:Array Value}{t:TypeId}{z:Nat × Nat}{v:Value}(h:U.heap[b]?=some (.cells cur t z))(hj:cur[j]?=some v):U.cell? ⟨b,j,none⟩=some v:=by
 simp[World.cell?,h,hj]
section
variable {W:World} {v:Value} {l:List Ri} {ops:Array Oper} {rest:List Oper} {o:Oper} {a:Act} {Q:Exit→Act→World→Prop} {F:Fence} {n B:Nat}
theorem cw(h:W.ownsRow B 49 17 v l.length ((l.map Ri.cs).flatten))(hB:B≤W.heap.size)(r:Ri)(cs:Array Value)(hc:cs.toList=r.cs)(hgd:o.guard=none)(s x:Operand)(ho:o.op=.call { callee:=.builtin .append,args:=#[s,x],argTypes:=#[36,36] })(hs:a.eval s=v)(hx:a.eval x=.slice (some ⟨W.heap.size,0,none⟩) 1 1)(hb:l.length+1≤100000000)(k:∀v' w',w'.ownsRow B 49 17 v' (l++[r]).length (((l++[r]).map Ri.cs).flatten)→(W.alloc (.cells cs 49)).grownBy w' v.ownBlock→wpListIn F n Zx ops Q rest (a.put o.dst v') w'):wpListIn F n Zx ops Q (o :: rest) a (W.alloc (.cells cs 49)):=by
 obtain⟨i0,hi0,Ux,WK,Vd⟩:=info_parts BB;refine abg hgd s x _ ho B 49 i0 _ 17 216 Tryz.underlying36 hi0 Ux WK Vd rfl asE v l.length _ hs (LC h _) (some ⟨W.heap.size,0,none⟩) 1 1 [r] Ri.cs hx rfl (fun i y hy=>⟨_,rfl,fun j u hu=>?_⟩) (fun y _=>y.cs_len) (fun y _=>y.cs_one)
  (by simp only[maxLen];omega) asB asM fun v' w' h2 h3=>k v' w' (by rw[Zj,List.map_append,List.flatten_append];exact h2) h3
 obtain⟨rfl,rfl⟩:i=0∧y=r:=by
  exact tm
 exact tz
end
open Go.RowKit Go.Shelf
def UC(n:Int):Ex:=.mk 1 ⟨0,0,n⟩ ⟨#[]⟩ ⟨#[]⟩ 0 0 none 0 []
def SQ:Ex:=.mk 5 ⟨0,0,0⟩ ⟨#[]⟩ ⟨#[]⟩ 0 0 none 0 []
def RV:Pr:={ headers:=⟨none,0,[]⟩,metas:=⟨none,0,[]⟩,states:=⟨none,0,[]⟩,actions:=⟨none,0,[]⟩,tables:=⟨none,0,[]⟩,control:=⟨none,0,[]⟩,emit:=⟨none,0,[]⟩ }
theorem OQ{α:Type}(W:World)(C:Nat)(cells:α→List Value)(K:α→Prop):Sl.In W C cells K ⟨none,0,[]⟩ :=
 ⟨Zt _,Zw _,fun i x h=>by simp at h,fun x h=>asT⟩
theorem FH(W:World):RV.In W:=⟨OQ _ _ _ _,OQ _ _ _ _,OQ _ _ _ _,OQ _ _ _ _,OQ _ _ _ _,OQ _ _ _ _,OQ _ _ _ _⟩
theorem FJ:U8 RV:=⟨fun x h=>asT,fun x h=>asT,fun x h=>asT⟩
theorem Fl(op n)(h:(Lit.int .u8 op).wf=true)(hn:(Lit.int .u64 n).wf=true)(W:World):(Ex.mk op ⟨0,0,n⟩ ⟨#[]⟩ ⟨#[]⟩ 0 0 none 0 []).In W:=.mk _ h ⟨rfl,rfl,hn⟩ rfl rfl (Zw _) (Zw _) (Zt _) (Zw _) (fun i x h=>by simp[Ex.args]at h) (fun x h=>by simp[Ex.args]at h)
theorem cE{W:World}{b:Nat}{cs:Array Value}{t:TypeId}{z:Nat × Nat}{l:List Ex}(h:W.heap[b]?=some (.cells cs t z))(VK:cs.toList=(l.map Ex.cells).flatten):Xa W 9 Ex.cells (some ⟨b,0,none⟩) l:=by
 intro i x hx;refine⟨_,rfl,fun j u hu=>?_⟩;have hj:j<9:=(Zi.1 hu).1;rw[Addr.add_lit,Addr.add_lit,Zv];refine YX h ?_;rw[←Array.getElem?_toList,VK,M3 Ex.cells 9 l i j x (fun _ _=>rfl) hx hj,hu]
def UZ(k:Int)(b:Nat)(l:List Ex):Ex:=.mk k ⟨0,0,0⟩ ⟨#[]⟩ ⟨#[]⟩ 0 0 (some ⟨b,0,none⟩) l.length l
theorem Fw{k:Int}{b:Nat}{l:List Ex}{W:World}{cs:Array Value}{t:TypeId}{z:Nat × Nat}(hk:(Lit.int .u8 k).wf=true)(hl:l.length≤2)(h:W.heap[b]?=some (.cells cs t z))(VK:cs.toList=(l.map Ex.cells).flatten)(hx:∀x∈l,x.In W):(UZ k b l).In W :=
 .mk _ hk ⟨rfl,rfl,rfl⟩ rfl rfl (Zw _) (Zw _) (Zt _) (Nat.le_trans hl asE) (cE h VK) hx
theorem jQ(n:Nat):Ex.may (n+1) SQ=true∧Ex.may (n+1) (UC 1)=true∧Ex.may (n+1) (UC 2)=true:=by
 refine⟨?_,?_,?_⟩ <;> simp[Ex.may,SQ,UC,Ex.op,Ex.args,Ex.fits,Ex.lit,Ex.head,Ex.name,Ex.hi,Ex.lo,SO,UX,Uh,Sw,Xe,VT,VU,V3,V4,Vs,WD,TY]
theorem Fx(b:Nat):(UZ 12 b [SQ,UC 1]).may 16=true∧(UZ 19 b [UC 1,UC 2]).may 16=true∧(UZ 9 b [SQ]).may 16=true:=by
 refine⟨?_,?_,?_⟩ <;> (rw[Ex.may];simp[UZ,Ex.op,Ex.args,Ex.fits,Ex.lit,Ex.head,Ex.name,Ex.hi,Ex.lo,SO,Uh,Sw,Xe,VT,VU,V3,V4,Vs,WD,TY,jQ])
theorem Fy(b:Nat):(UZ 12 b [SQ,UC 1]).ty RV (-1)=(0,⟨9,false,false⟩)∧((UZ 19 b [UC 1,UC 2]).ty RV (-1)).1=10∧((UZ 9 b [SQ]).ty RV (-1)).1=9:=by
 refine⟨?_,?_,?_⟩ <;> (simp only[UZ,SQ,UC,Ex.ty,Ex.tys,Ex.free,Ex.frees];rfl)
theorem Fz(b:Nat):(UZ 12 b [SQ,UC 1]).wt≤1048576∧(UZ 19 b [UC 1,UC 2]).wt≤1048576∧(UZ 9 b [SQ]).wt≤1048576:=by
 refine⟨?_,?_,?_⟩ <;> (simp only[UZ,SQ,UC,Ex.wt,Ex.wts];decide)
theorem FI:RV.sz≤1048576:=asE
theorem Ff(n V):Kp Zx V 15 #[.int .u64 n] (.agg #[.int .u8 1,.int .i64 0,.int .u64 0,.int .u64 n,.string ⟨#[]⟩,.string ⟨#[]⟩,.int .i64 0,.int .i64 0,.slice none 0 0]):=by
 intro y0;go_enter func15,ntmps15;go_wp2;obtain⟨X,Y0,eX,⟨zX,ZE⟩,ca⟩:=YO (plus V y0) #[.int .u8 1,.int .i64 0,.int .u64 0,.int .u64 n,.string ⟨#[]⟩,.string ⟨#[]⟩,.int .i64 0,.int .i64 0,.slice none 0 0] 45;rw[eX];have c0:=ca 0 _ rfl Y0;have c1:=ca 1 _ rfl Y0;have c2:=ca 2 _ rfl Y0;have c3:=ca 3 _ rfl Y0;have c4:=ca 4 _ rfl Y0;have c5:=ca 5 _ rfl Y0;have c6:=ca 6 _ rfl Y0;have c7:=ca 7 _ rfl Y0;have c8:=ca 8 _ rfl Y0;exact bodyPost_ret (v:=.agg #[.int .u8 1,.int .i64 0,.int .u64 0,.int .u64 n,.string ⟨#[]⟩,.string ⟨#[]⟩,.int .i64 0,.int .i64 0,.slice none 0 0]) (by simp[results,Tryz.results15,go_sem,c0,c1,c2,c3,c4,c5,c6,c7,c8]) rfl ⟨rfl,by rw[ZE,ZD];exact⟨_,rfl⟩⟩
theorem jl(W:World)(b:Nat)(h:W.heap[b]?=some (.cells #[.int .u8 5,.int .i64 0,.int .u64 0,.int .u64 0,.string ⟨#[]⟩,.string ⟨#[]⟩,.int .i64 0,.int .i64 0,.slice none 0 0,.int .u8 1,.int .i64 0,.int .u64 0,.int .u64 1,.string ⟨#[]⟩,.string ⟨#[]⟩,.int .i64 0,.int .i64 0,.slice none 0 0] 45)):Calls Zx 16 #[.agg #[.slice none 0 0,.slice none 0 0,.slice none 0 0,.slice none 0 0,.slice none 0 0,.slice none 0 0,.slice none 0 0],.int .i64 (-1),.agg #[.int .u8 12,.int .i64 0,.int .u64 0,.int .u64 0,.string ⟨#[]⟩,.string ⟨#[]⟩,.int .i64 0,.int .i64 0,.slice (some ⟨b,0,none⟩) 2 2]] W fun e w'=>e=.returned (.tuple #[.agg #[.int .i64 9,.bool false,.bool false],.int .i64 0])∧∃y,w'=plus W y:=by
 have q:=Er RV FI FJ (-1) (UZ 12 b [SQ,UC 1]) (Fx b).1 W (FH W) (Fw rfl asE h rfl (fun x h=>by
   simp only[List.mem_cons,List.not_mem_nil,or_false]at h;rcases h with rfl|rfl <;> exact Fl _ _ rfl rfl _)) (Fz b).1 ⟨#[],W.drawn⟩
 rw[(Fy b).1,Yk]at q;exact q
theorem jn(W:World)(b:Nat)(h:W.heap[b]?=some (.cells #[.int .u8 1,.int .i64 0,.int .u64 0,.int .u64 1,.string ⟨#[]⟩,.string ⟨#[]⟩,.int .i64 0,.int .i64 0,.slice none 0 0,.int .u8 1,.int .i64 0,.int .u64 0,.int .u64 2,.string ⟨#[]⟩,.string ⟨#[]⟩,.int .i64 0,.int .i64 0,.slice none 0 0] 45)):∃w tt tf,Calls Zx 16 #[.agg #[.slice none 0 0,.slice none 0 0,.slice none 0 0,.slice none 0 0,.slice none 0 0,.slice none 0 0,.slice none 0 0],.int .i64 (-1),.agg #[.int .u8 19,.int .i64 0,.int .u64 0,.int .u64 0,.string ⟨#[]⟩,.string ⟨#[]⟩,.int .i64 0,.int .i64 0,.slice (some ⟨b,0,none⟩) 2 2]] W fun e w'=>e=.returned (.tuple #[.agg #[.int .i64 w,.bool tt,.bool tf],.int .i64 10])∧∃y,w'=plus W y:=by
 have q:=Er RV FI FJ (-1) (UZ 19 b [UC 1,UC 2]) (Fx b).2.1 W (FH W) (Fw rfl asE h rfl (fun x h=>by
   simp only[List.mem_cons,List.not_mem_nil,or_false]at h;rcases h with rfl|rfl <;> exact Fl _ _ rfl rfl _)) (Fz b).2.1 ⟨#[],W.drawn⟩
 have ht:=(Fy b).2.1;obtain⟨⟨R,⟨tw,tt,tf⟩⟩,hR⟩:∃R,(UZ 19 b [UC 1,UC 2]).ty RV (-1)=R:=⟨_,rfl⟩;rw[hR]at q ht;obtain rfl:R=10:=ht;rw[Yk]at q;exact⟨tw,tt,tf,q⟩
theorem jm(W:World)(b:Nat)(h:W.heap[b]?=some (.cells #[.int .u8 5,.int .i64 0,.int .u64 0,.int .u64 0,.string ⟨#[]⟩,.string ⟨#[]⟩,.int .i64 0,.int .i64 0,.slice none 0 0] 45)):∃w tt tf,Calls Zx 16 #[.agg #[.slice none 0 0,.slice none 0 0,.slice none 0 0,.slice none 0 0,.slice none 0 0,.slice none 0 0,.slice none 0 0],.int .i64 (-1),.agg #[.int .u8 9,.int .i64 0,.int .u64 0,.int .u64 0,.string ⟨#[]⟩,.string ⟨#[]⟩,.int .i64 0,.int .i64 0,.slice (some ⟨b,0,none⟩) 1 1]] W fun e w'=>e=.returned (.tuple #[.agg #[.int .i64 w,.bool tt,.bool tf],.int .i64 9])∧∃y,w'=plus W y:=by
 have q:=Er RV FI FJ (-1) (UZ 9 b [SQ]) (Fx b).2.2 W (FH W) (Fw rfl asE h rfl (fun x h=>by
   simp only[List.mem_cons,List.not_mem_nil,or_false]at h;rcases h with rfl <;> exact Fl _ _ rfl rfl _)) (Fz b).2.2 ⟨#[],W.drawn⟩
 have ht:=(Fy b).2.2;obtain⟨⟨R,⟨tw,tt,tf⟩⟩,hR⟩:∃R,(UZ 9 b [SQ]).ty RV (-1)=R:=⟨_,rfl⟩;rw[hR]at q ht;obtain rfl:R=9:=ht;rw[Yk]at q;exact⟨tw,tt,tf,q⟩
end Go.Proofs.YtknmeggfokpbjaaGreat

/-
  WHAT IS PROVED HERE: a part of the proof (made narrower and merged by program; the parts: Vy Wr Da Wa Dr).
-/
import Derived.Laws.OwnMore
import Derived.Deep.AppendLies
import Derived.OwnWalkIn
import Derived.OwnWalk
import Derived.Laws.MakeOwn
import Derived.Test.YtknmeggfokpbjaaGreatM18
import Derived.Test.YtknmeggfokpbjaaGreatM8
import Derived.Test.YtknmeggfokpbjaaGreatM2
set_option maxRecDepth 100000
set_option maxHeartbeats 8000000
set_option linter.all false
namespace Go.Proofs.YtknmeggfokpbjaaGreat
open Z
open Go.RowKit Go.Proofs.Tryz
open Below renaming refl→Zb
open Lib renaming hid→Zf
open List renaming getElem?_eq_some_iff→Zi,length_append→Zj,length_cons→Zk,map_cons→Zm,mem_of_getElem?→Zo,set_cons_zero→Zr
open Nat renaming le_refl→Zt,lt_of_lt_of_le→Zu,zero_add→Zv
open Go.Proofs.Tryz renaming prog→Zx
open Value renaming int→Zz
open World renaming cell?_setCell_other→ZA
open Go.RowKit
theorem aaA(p:Pr)(act:Int)(e:Ex)(h:¬(e.ty p act).1=0):(e.ty p act).2=XH:=by
 rw[Ex.ty_eq]at h ⊢;have hl:∀o w hd nm,¬(XS p act o w hd nm).1=0→(XS p act o w hd nm).2=XH:=by
  intro o w hd nm h;unfold XS at h ⊢;repeat' split at h
  all_goals simp_all
 have hs:∀o hi lo t,¬(V0 o hi lo t).1=0→(V0 o hi lo t).2=XH:=by
  intro o hi lo t h;unfold V0 at h ⊢;repeat' split at h
  all_goals simp_all
 have hp:∀o n m s t,¬(SP o n m s t).1=0→(SP o n m s t).2=XH:=by
  intro o n m s t h;unfold SP at h ⊢;by_cases q1:o=25∨o=26
  ·rw[if_pos q1]at h ⊢
   by_cases q2:(s.tr&&t.tr)=true
   ·rw[if_pos q2]at h;exact absurd rfl h
   ·rw[if_neg q2]
  rw[if_neg q1]at h ⊢;by_cases q3:o=11
  ·rw[if_pos q3]at h ⊢
   by_cases q4:Yz s≠0
   ·rw[if_pos q4]
   rw[if_neg q4]at h ⊢;by_cases q5:Yz t≠0
   ·rw[if_pos q5]
   rw[if_neg q5]at h ⊢;by_cases q6:128<s.w+t.w
   ·rw[if_pos q6]
   ·rw[if_neg q6]at h;exact absurd rfl h
  rw[if_neg q3]at h ⊢;by_cases q7:(WC n m s t).1≠0
  ·rw[if_pos q7]
  rw[if_neg q7]at h;split at h <;> exact absurd rfl h
 cases he:e.args.map (fun x=>(x.ty p act,x.free)) with
 | nil=>rw[he]at h;exact hl _ _ _ _ h
 | cons a l =>
  rw[he]at h;obtain⟨r,n⟩:=a;simp only[R7]at h ⊢;by_cases q:r.1≠0
  ·rw[if_pos q]
  rw[if_neg q]at h ⊢;by_cases o:e.op=14∨e.op=15
  ·rw[if_pos o]at h ⊢
   by_cases b:Yz r.2≠0
   ·rw[if_pos b]
   ·rw[if_neg b]at h;exact absurd rfl h
  rw[if_neg o]at h ⊢;cases l with
  | nil=>exact hs _ _ _ _ h
  | cons d l =>
   obtain⟨s,m⟩:=d;simp only at h ⊢;by_cases b:s.1≠0
   ·rw[if_pos b]
   ·rw[if_neg b]at h ⊢;exact hp _ _ _ _ _ h
theorem nF(V:World)(c d f g h:Array Value)(t u s r q:TypeId):∃X,((((V.alloc (.cells c t)).alloc (.cells d u)).alloc (.cells f s)).alloc (.cells g r)).alloc (.cells h q)=X∧(∃z,X=plus V z)∧X.heap.size=V.heap.size+5∧(∀o v,c[o]?=v→∀y,(plus X y).cell? ⟨V.heap.size,o,none⟩=v)∧(∀o v,d[o]?=v→∀y,(plus X y).cell? ⟨V.heap.size+1,o,none⟩=v)∧(∀o v,f[o]?=v→∀y,(plus X y).cell? ⟨V.heap.size+1+1,o,none⟩=v)∧(∀o v,g[o]?=v→∀y,(plus X y).cell? ⟨V.heap.size+1+1+1,o,none⟩=v)∧(∀o v,h[o]?=v→∀y,(plus X y).cell? ⟨V.heap.size+1+1+1+1,o,none⟩=v)∧(∀y o,(plus X y).frozen? ⟨V.heap.size+1+1+1,o,none⟩=false)∧(∀y o,(plus X y).frozen? ⟨V.heap.size+1+1+1+1,o,none⟩=false):=by
 obtain⟨W,hW,hB,hs,ca,cb,cc,fa,fb,fc⟩:=Su V c d f t u s;obtain⟨X,hX,VI,ZP,cg,ch,fg,fh⟩:=QM W g h r q;have YB:W.heap.size=V.heap.size+1+1+1:=asB;rw[YB]at cg ch fg fh;rw[←hW,←hX];obtain⟨z,hz⟩:=Yy hB;obtain⟨Xt,ZG⟩:=Yy VI;refine⟨X,rfl,⟨_,by rw[ZG,hz,ZD]⟩,asB,?_,?_,?_,cg,ch,fg,fh⟩
 ·intro o v h y;rw[ZG,ZD];exact ca o v h _
 ·intro o v h y;rw[ZG,ZD];exact cb o v h _
 ·intro o v h y;rw[ZG,ZD];exact cc o v h _
structure Nj (V:World) (b6 b8:Nat) (t:Ty) (U:World):Prop where
 rb:RB V b6 U
 q0:U.cell? ⟨b8,0,none⟩=some (.int .i64 t.w)
 q1:U.cell? ⟨b8,1,none⟩=some (.bool t.tr)
 q2:U.cell? ⟨b8,2,none⟩=some (.bool t.fr)
theorem Nj.setO{V U:World}{b6 b8 n:Nat}{t:Ty}(h:Nj V b6 b8 t U)(hn:V.heap.size≤n)(h6:n≠b6)(h8:n≠b8)(o:Nat)(v:Value):Nj V b6 b8 t (U.setCell ⟨n,o,none⟩ v):=by
 have n6:∀k,(⟨n,o,none⟩:Addr)≠⟨b6,k,none⟩:=fun k c=>h6 (by injection c);have n8:∀k,(⟨n,o,none⟩:Addr)≠⟨b8,k,none⟩:=fun k c=>h8 (by injection c);obtain⟨⟨⟨z,rfl⟩,lo,r0,r1,r2,rf⟩,q0,q1,q2⟩:=h;exact⟨⟨Yy ((Xl V z).setCell (by simpa using hn) v),lo,(ZA _ _ _ _ (n6 0)).trans r0,(ZA _ _ _ _ (n6 1)).trans r1,(ZA _ _ _ _ (n6 2)).trans r2,fun k=>by rw[World.frozen?_setCell];exact rf k⟩,
  (ZA _ _ _ _ (n8 0)).trans q0,(ZA _ _ _ _ (n8 1)).trans q1,(ZA _ _ _ _ (n8 2)).trans q2⟩
theorem gZ{V W1:World}{b6 b8:Nat}{t:Ty}{R:Int}{x:ZH}(h6:RB V b6 (plus W1 x))(h8:V.heap.size≤b8)(YN:b8≠b6)(q0:(plus W1 x).cell? ⟨b8,0,none⟩=some (.int .i64 0))(q1:(plus W1 x).cell? ⟨b8,1,none⟩=some (.bool false))(q2:(plus W1 x).cell? ⟨b8,2,none⟩=some (.bool false))(ht:¬R=0→t=XH) :
  Nj V b6 b8 t (if R=0 then (((plus W1 x).setCell ⟨b8,0,none⟩ (.int .i64 t.w)).setCell ⟨b8,1,none⟩ (.bool t.tr)).setCell ⟨b8,2,none⟩ (.bool t.fr) else plus W1 x):=by
 by_cases hR:R=0
 ·rw[if_pos hR]
  obtain⟨Y,hY,g0,g1,g2,hx⟩:=xE h6.up b8 h8 _ _ _ (.int .i64 t.w) (.bool t.tr) (.bool t.fr) q0 q1 q2;have hn:∀i k,(⟨b8,i,none⟩:Addr)≠⟨b6,k,none⟩:=fun i k c=>YN (by injection c);refine⟨⟨by rw[hY];exact hx,h6.low,?_,?_,?_,?_⟩,by rw[hY];exact g0,by rw[hY];exact g1,by rw[hY];exact g2⟩
  ·rw[ZA (h:=hn 2 0),ZA (h:=hn 1 0),ZA (h:=hn 0 0)];exact h6.r0
  ·rw[ZA (h:=hn 2 1),ZA (h:=hn 1 1),ZA (h:=hn 0 1)];exact h6.r1
  ·rw[ZA (h:=hn 2 2),ZA (h:=hn 1 2),ZA (h:=hn 0 2)];exact h6.r2
  ·intro o;rw[World.frozen?_setCell,World.frozen?_setCell,World.frozen?_setCell];exact h6.rf o
 ·rw[if_neg hR,ht hR]
  exact⟨h6,q0,q1,q2⟩
theorem Er(p:Pr)(hz:p.sz≤1048576)(hW:U8 p)(act)(e:Ex)(hm:e.may 16=true)(w:World)(ZF:p.In w)(he:e.In w)(hb:e.wt≤1048576) :
  Kp Zx w 16 #[.agg #[.slice p.headers.p p.headers.l.length p.headers.cap,.slice p.metas.p p.metas.l.length p.metas.cap,.slice p.states.p p.states.l.length p.states.cap,.slice p.actions.p p.actions.l.length p.actions.cap,.slice p.tables.p p.tables.l.length p.tables.cap,.slice p.control.p p.control.l.length p.control.cap,.slice p.emit.p p.emit.l.length p.emit.cap],.int .i64 act,e.val] (VD (e.ty p act)):=by
 intro y0;have kt:=(Mj p hz hW act e 16 w hm ZF he hb).up y0;have he:=he.plus y0;have Ud:=fun V (h:e.In V)=>nf e V h hb;have KS:=aaA p act e;obtain⟨V,hV⟩:=ZB (plus w y0);rw[hV]at kt he ⊢;clear hV ZF;obtain⟨⟨R,t⟩,hR⟩:∃R,e.ty p act=R:=⟨_,rfl⟩;rw[hR]at kt KS ⊢;clear hR;simp only at KS kt ⊢;have kch:∀X:World,(∃z,X=plus V z)→∀(g:Value) (T:World→Prop),(∀W,(∃z,W=plus X z)→Calls Zx 18 #[g] W fun e w'=>e=.returned (.int .i64 R)∧T w')→Calls Zx 26 #[e.val,g] X fun e w'=>e=.returned (.int .i64 R)∧T w' :=
  fun X hX g T h=>by
   have hXe:e.In X:=by obtain⟨z,rfl⟩:=hX;exact he.plus z
   exact aB e X hm (Ud X hXe) g R T h
 clear Ud hm he hb hz hW;open Z renaming amk→zq in exact tY
mutual
/-- An expression,wherever its Args lie. -/
def Ex.bare:Ex→Ex
 | .mk op lit hd nm hi lo _ _ l=>.mk op lit hd nm hi lo none 0 (Ex.bares l)
def Ex.bares:List Ex→List Ex
 | []=>[]
 | x :: l=>x.bare :: Ex.bares l
end
theorem Ex.bares_map:∀l:List Ex,Ex.bares l=l.map Ex.bare
 | []=>by rw[Ex.bares];rfl
 | x :: l=>by rw[Ex.bares,Ex.bares_map l];rfl
theorem Ex.bare_eq(e:Ex):e.bare=.mk e.op e.lit e.head e.name e.hi e.lo none 0 (e.args.map Ex.bare):=by
 cases e;rw[Ex.bare,Ex.bares_map];rfl
theorem oV(l:List Ex):QL (l.map Ex.bare)=QL l:=by
 match l with
 | []=>rfl
 | [_]=>rfl
 | [_,b] =>
  simp only[Zm,List.map_nil,QL,MT];rw[Ex.bare_eq b];rfl
 | _ :: _ :: _ :: _=>rfl
theorem HF:∀(n:Nat) (e:Ex),e.bare.may n=e.may n
 | 0,_=>rfl
 | n+1,e=>by
  rw[Ex.may,Ex.may,Ex.bare_eq];unfold Ex.fits Xe;simp only[Ex.op,Ex.lit,Ex.head,Ex.name,Ex.hi,Ex.lo,Ex.args,List.length_map,oV,List.all_map];have:(Ex.may n ∘ Ex.bare)=Ex.may n:=funext fun x=>HF n x;rw[this];rfl
theorem Cr:∀e:Ex,e.bare.wt=e.wt:=fun e=>Ex.ind (Q:=fun e=>e.bare.wt=e.wt) (fun e ih=>by
 rw[Ex.wt_eq,Ex.wt_eq e,Ex.bare_eq];simp only[Ex.head,Ex.name,Ex.args,List.map_map];congr 2
 refine List.map_congr_left fun x hx=>?_;exact ih x hx) e
theorem jY{e f:Ex}(h:e.bare=f.bare)(n:Nat):e.may n=f.may n:=by
 rw[←HF n e,←HF n f,h]
theorem j2{e f:Ex}(h:e.bare=f.bare):e.wt=f.wt:=by
 rw[←Cr e,←Cr f,h]
theorem M3{α:Type}(f:α→List Value)(C:Nat):∀(l:List α) (i j:Nat) (x:α),(∀y∈l,(f y).length=C)→l[i]?=some x→j<C→((l.map f).flatten)[i*C+j]?=(f x)[j]?
 | [],i,j,x,_,h,_=>by simp at h
 | a :: l,0,j,x,hC,h,hj=>by
  simp only[List.getElem?_cons_zero,Option.some.injEq]at h;subst h;have h1:=hC a (List.mem_cons_self ..);rw[Zm,List.flatten_cons,Nat.zero_mul,Zv,List.getElem?_append_left asB]
 | a :: l,i+1,j,x,hC,h,hj=>by
  simp only[List.getElem?_cons_succ]at h;have h1:=hC a (List.mem_cons_self ..);have e:(i+1)*C+j=C+(i*C+j):=by rw[Nat.succ_mul];omega
  rw[Zm,List.flatten_cons,e,List.getElem?_append_right asB,h1,Nat.add_sub_cancel_left];exact M3 f C l i j x (fun y hy=>hC y (List.mem_cons_of_mem _ hy)) h hj
theorem Ob{α:Type}(f:α→List Value)(C:Nat):∀(l:List α),(∀y∈l,(f y).length=C)→((l.map f).flatten).length=l.length*C
 | [],_=>by simp
 | a :: l,hC=>by
  have h1:=hC a (List.mem_cons_self ..);have h2:=Ob f C l (fun y hy=>hC y (List.mem_cons_of_mem _ hy));rw[Zm,List.flatten_cons,Zj,h1,h2,Zk,Nat.succ_mul,Nat.add_comm]
theorem Bc{α:Type}(f:α→List Value)(l:List α)(u:Value)(h:u∈(l.map f).flatten):∃y∈l,u∈f y:=by
 rw[List.mem_flatten]at h;obtain⟨L,hL,hu⟩:=h;rw[List.mem_map]at hL;obtain⟨y,hy,rfl⟩:=hL;exact⟨y,hy,hu⟩
theorem yR{α:Type}{w:World}{C:Nat}{f:α→List Value}{ad:Addr}{l:List α}(Yj:Xa w C f (some ad) l)(hC:∀y∈l,(f y).length=C)(hC0:0<C) :
  ∀j u,((l.map f).flatten)[j]?=some u→w.cell? (ad.add j)=some u:=by
 intro j u hu;have hj:j<l.length*C:=by rw[←Ob f C l hC];exact (Zi.1 hu).1
 have hd:j / C<l.length:=Nat.div_lt_of_lt_mul (by rw[Nat.mul_comm];exact hj);have hx:l[j / C]?=some l[j / C]:=List.getElem?_eq_getElem hd;have e:j=j / C*C+j % C:=by rw[Nat.mul_comm];exact (Nat.div_add_mod j C).symm
 have hm:j % C<C:=Nat.mod_lt _ hC0;rw[e,M3 f C l _ _ _ hC hx hm]at hu;obtain⟨a,ha,hc⟩:=Yj _ _ hx;obtain rfl:ad=a:=by simpa using ha
 have:=hc _ _ hu;rw[Addr.add_add,←e]at this;exact this
theorem FF{α:Type}{w:World}{base:Nat}{e:TypeId}{C n g cap:Nat}{f:α→List Value}{l:List α}(h:w.ownsRow base e C (.slice (some ⟨g,0,none⟩) n cap) n ((l.map f).flatten))(hC:∀y∈l,(f y).length=C):Xa w C f (some ⟨g,0,none⟩) l:=by
 intro i x hx;refine⟨_,rfl,fun j v hv=>?_⟩;have hj:j<C:=by have:=(Zi.1 hv).1;rw[hC x (Zo hx)]at this;exact this
 have hl:=Ob f C l hC;have h1:=h.1;have hi:i<l.length:=(Zi.1 hx).1;have hk:i*C+j<n*C:=by
  rw[←h1,hl];exact Zu (show i*C+j<(i+1)*C by rw[Nat.succ_mul];omega) (Nat.mul_le_mul_right C hi)
 rw[Addr.add_lit,Addr.add_lit,Zv];rw[h.cellAt _ hk,M3 f C l i j x hC hx hj,hv]
section
variable {P:Program} {w:World}
theorem yV(base:Nat)(t ty e:TypeId)(i:TypeInfo)(size:Nat)(ht:P.underlying t=some (.slice e))(hi:P.info? e=some i)(v:Value)(n:Nat)(xs:List Value)(c)(VX:w.ownsRow base e size v n xs) :
  (Builtin.append_ #[t,t] ty #[v,.slice none 0 c]).run P w=.ok v w:=by
 rcases VX.2 with⟨rfl,rfl⟩|⟨g,cap,cur,rfl,_,_,hnc,_⟩
 ·simp[Builtin.append_,run_underlying ht,sizeOf,typeInfo,hi,Builtin.lenOf,Builtin.firstCells]
 ·simp[Builtin.append_,run_underlying ht,sizeOf,typeInfo,hi,Builtin.lenOf,Builtin.firstCells,hnc,storeCells]
theorem abh{α:Type}{ops:Array Oper}{rest:List Oper}{o:Oper}{a:Act}{Q:Exit→Act→World→Prop}(hgd:o.guard=none)(s x:Operand)(t:TypeId)(ho:o.op=.call { callee:=.builtin .append,args:=#[s,x],argTypes:=#[t,t] })(base:Nat)(e:TypeId)(i:TypeInfo)(z:Value)(size bytes:Nat)(ht:P.underlying t=some (.slice e))(hi:P.info? e=some i)(hz:i.zero=some z)(hsize:i.size=size)(hby:i.bytes=bytes)(hzs:z.cells.size=size)(YB:0<size)(v:Value)(n:Nat)(xs:List Value)(hs:a.eval s=v)(VX:w.ownsRow base e size v n xs)(p m c)(l:List α)(f:α→List Value)(hx:a.eval x=.slice p m c)(hm:l.length=m)(Yj:Xa w size f p l)(hC:∀y∈l,(f y).length=size)(h1:∀y∈l,∀u∈f y,u.oneCell'=true)(h63:n+m≤maxLen)(Gh:(n+m)*bytes≤140737488355328)(hbase:base≤w.heap.size)(h:∀v' w',w'.ownsRow base e size v' (n+m) (xs++(l.map f).flatten)→w.grownBy w' v.ownBlock→wpList P ops Q rest (a.put o.dst v') w'):wpList P ops Q (o :: rest) a w:=by
 cases p with
 | none =>
  obtain rfl:l=[]:=by
   cases l with
   | nil=>rfl
   | cons y l=>obtain⟨_,h,_⟩:=Yj 0 y rfl;cases h
  obtain rfl:m=0:=by rw[←hm];rfl
  refine wpList_plain hgd fun K hK=>?_;have hrun:=yV (P:=P) (w:=w) base t o.type e i size ht hi v n xs c VX;unfold Oper.wp;simp[execOp,ho,resolve,invoke,builtin,hs,hx,hrun,Result.andThen];exact hK _ _ (h v w (by simpa using VX) (World.grownBy.mk rfl rfl rfl (Zt _) fun _ _ _=>rfl))
 | some ad =>
  exact wpList_append_own w hgd s x t ho base e i z size bytes ht hi hz hsize hby hzs YB v n xs hs VX ad m c _ hx (by rw[Ob f size l hC,hm]) (yR Yj hC YB)
   (fun u hu=>by obtain⟨y,hy,hu⟩:=Bc f l u hu;exact h1 y hy u hu) h63 Gh hbase fun v' w' h2 h3 _=>h v' w' h2 h3
theorem abg{α:Type}{F:Fence}{N:Nat}{ops:Array Oper}{rest:List Oper}{o:Oper}{a:Act}{Q:Exit→Act→World→Prop}(hgd:o.guard=none)(s x:Operand)(t:TypeId)(ho:o.op=.call { callee:=.builtin .append,args:=#[s,x],argTypes:=#[t,t] })(base:Nat)(e:TypeId)(i:TypeInfo)(z:Value)(size bytes:Nat)(ht:P.underlying t=some (.slice e))(hi:P.info? e=some i)(hz:i.zero=some z)(hsize:i.size=size)(hby:i.bytes=bytes)(hzs:z.cells.size=size)(YB:0<size)(v:Value)(n:Nat)(xs:List Value)(hs:a.eval s=v)(VX:w.ownsRow base e size v n xs)(p m c)(l:List α)(f:α→List Value)(hx:a.eval x=.slice p m c)(hm:l.length=m)(Yj:Xa w size f p l)(hC:∀y∈l,(f y).length=size)(h1:∀y∈l,∀u∈f y,u.oneCell'=true)(h63:n+m≤maxLen)(Gh:(n+m)*bytes≤140737488355328)(hbase:base≤w.heap.size)(h:∀v' w',w'.ownsRow base e size v' (n+m) (xs++(l.map f).flatten)→w.grownBy w' v.ownBlock→wpListIn F N P ops Q rest (a.put o.dst v') w'):wpListIn F N P ops Q (o :: rest) a w:=by
 cases p with
 | none =>
  obtain rfl:l=[]:=by
   cases l with
   | nil=>rfl
   | cons y l=>obtain⟨_,h,_⟩:=Yj 0 y rfl;cases h
  obtain rfl:m=0:=by rw[←hm];rfl
  refine wpListIn_plain hgd fun K hK=>?_;have hrun:=yV (P:=P) (w:=w) base t o.type e i size ht hi v n xs c VX;unfold Oper.wpIn;refine⟨?_,?_⟩
  ·simp[Oper.about,ho,resolve,Target.leads,Sem.run_pure]
  ·rw[Oper.semAt_plain F _ _ (by rw[ho];intro c Yo;cases Yo)]
   simp[execOp,ho,resolve,invoke,builtin,hs,hx,hrun,Result.andThen];exact hK _ _ (h v w (by simpa using VX) (World.grownBy.mk rfl rfl rfl (Zt _) fun _ _ _=>rfl))
 | some ad =>
  exact wpListIn_append_own w hgd s x t ho base e i z size bytes ht hi hz hsize hby hzs YB v n xs hs VX ad m c _ hx (by rw[Ob f size l hC,hm]) (yR Yj hC YB)
   (fun u hu=>by obtain⟨y,hy,hu⟩:=Bc f l u hu;exact h1 y hy u hu) h63 Gh hbase fun v' w' h2 h3 _=>h v' w' h2 h3
theorem JL{w:World}{base:Nat}{e:TypeId}{size:Nat}{v:Value}{n:Nat}{xs:List Value}(h:w.ownsRow base e size v n xs)(hn:0<n):∃g cap,v=.slice (some ⟨g,0,none⟩) n cap∧base≤g∧g<w.heap.size:=by
 rcases h.2 with⟨rfl,h0⟩|⟨g,cap,cur,rfl,hg,hh,_⟩
 ·omega
 ·exact⟨g,cap,rfl,hg,(Array.getElem?_eq_some_iff.1 hh).1⟩
end
theorem Qi(a:Addr)(n:Nat):(a.add n).block=a.block:=by
 unfold Addr.add;split <;> rfl
inductive WP (n:Nat) (W:World):Ex→Prop where
 | mk (e:Ex) (row:0<e.args.length→∃a cur fz,e.p=some a∧n≤a.block∧W.heap[a.block]?=some (.cells cur 45 fz)) (kids:∀x∈e.args,WP n W x):WP n W e
theorem WP.mono{n m:Nat}{W:World}(hm:m≤n):∀{e:Ex},WP n W e→WP m W e:=fun {e} h=>by
 induction h with
 | mk e row _ ih=>exact .mk e (fun h=>by obtain⟨a,cur,fz,h1,h2,h3⟩:=row h;exact⟨a,cur,fz,h1,Nat.le_trans hm h2,h3⟩) ih
theorem M2{n:Nat}{W W':World}(hk:∀b cur fz,n≤b→W.heap[b]?=some (.cells cur 45 fz)→W'.heap[b]?=some (.cells cur 45 fz)):∀e:Ex,e.In W→WP n W e→e.In W'∧WP n W' e:=fun e=>Ex.ind (Q:=fun e=>e.In W→WP n W e→e.In W'∧WP n W' e) (fun e ih hi ho=>by
 obtain⟨_,op,lit,hi,lo,hd,nm,len,cap,row,kids⟩:=hi;obtain⟨_,row2,kids2⟩:=ho;have Yp:=fun x hx=>ih x hx (kids x hx) (kids2 x hx);refine⟨.mk e op lit hi lo hd nm len cap (fun i x hx=>?_) fun x hx=>(Yp x hx).1,.mk e (fun h=>?_) fun x hx=>(Yp x hx).2⟩
 ·obtain⟨a,ha,hc⟩:=row i x hx
  obtain⟨a2,cur,fz,h1,h2,h3⟩:=row2 (by have:=(Zi.1 hx).1;omega);rw[h1]at ha;obtain rfl:=Option.some.inj ha;have h4:=hk _ _ _ h2 h3;exact⟨a2,h1,fun j v hj=>(World.cell?_of_block (show W'.heap[((a2.add (i*9)).add j).block]?=W.heap[((a2.add (i*9)).add j).block]? from by rw[Qi,Qi];exact h4.trans h3.symm)).trans (hc j v hj)⟩
 ·obtain⟨a2,cur,fz,h1,h2,h3⟩:=row2 h
  exact⟨a2,cur,fz,h1,h2,hk _ _ _ h2 h3⟩) e
theorem WP.plus{n:Nat}{W:World}{e:Ex}(hi:e.In W)(ho:WP n W e)(x:ZH):WP n (plus W x) e:=(M2 (fun b _ _ _ h=>((Xl W x).block b (Array.getElem?_eq_some_iff.1 h).1).trans h) e hi ho).2
def Mh:List Value→Nat→List Value→List Value
 | xs,_,[]=>xs
 | xs,o,v :: vs=>Mh (xs.set o v) (o+1) vs
def Vt(g:Nat):World→Nat→List Value→World
 | W,_,[]=>W
 | W,o,v :: vs=>Vt g (W.setCell ⟨g,o,none⟩ v) (o+1) vs
theorem xa:∀(vs A B:List Value),vs.length≤B.length→Mh (A++B) A.length vs=A++vs++B.drop vs.length
 | [],A,B,_=>by simp[Mh]
 | v :: vs,A,b :: B,h=>by
  rw[Mh,List.set_append_right _ _ (Zt _),Nat.sub_self,Zr];have:=xa vs (A++[v]) B asN;rw[Zj,List.length_singleton]at this;rw[show A++v :: B=A++[v]++B by simp,this];simp
 | v :: vs,A,[],h=>by simp at h
theorem Eg{base:Nat}{e:TypeId}{size g n cap:Nat}:∀(vs:List Value) (W:World) (o:Nat) (xs:List Value),W.ownsRow base e size (.slice (some ⟨g,0,none⟩) n cap) n xs →
  (Vt g W o vs).ownsRow base e size (.slice (some ⟨g,0,none⟩) n cap) n (Mh xs o vs)∧W.grownBy (Vt g W o vs) (some g)
 | [],W,o,xs,h=>⟨h,World.grownBy.mk rfl rfl rfl (Zt _) fun _ _ _=>rfl⟩
 | v :: vs,W,o,xs,h=>by
  obtain⟨h1,h2⟩:=h.stored o v;obtain⟨h3,h4⟩:=Eg vs _ (o+1) _ h1;exact⟨h3,World.grownBy.mk (h4.os.trans h2.os) (h4.tape.trans h2.tape) (h4.output.trans h2.output) (Nat.le_trans h2.size h4.size) fun k hk YN=>(h4.block k (Zu hk h2.size) YN).trans (h2.block k hk YN)⟩
theorem Ny{g:Nat}:∀(vs:List Value) (W:World) (o k:Nat),k≠g→(Vt g W o vs).heap[k]?=W.heap[k]?
 | [],_,_,_,_=>rfl
 | v :: vs,W,o,k,h=>(Ny vs _ (o+1) k h).trans (Below.heap_setCell W ⟨g,o,none⟩ v k h)
theorem Gb{g:Nat}:∀(vs:List Value) (W:World) (o:Nat),(Vt g W o vs).heap.size=W.heap.size
 | [],_,_=>rfl
 | v :: vs,W,o=>(Gb vs _ (o+1)).trans asD
theorem Oc{g B:Nat}(hB:B≤g):∀(vs:List Value) (W:World) (o:Nat),Below B W (Vt g W o vs)
 | [],_,_=>Zb _ _
 | v :: vs,W,o=>((Zb B W).setCell (p:=⟨g,o,none⟩) hB v).trans (Oc hB vs _ (o+1))
theorem M4{g:Nat}:∀(vs:List Value) (W:World) (o:Nat) (a:Addr),(∀i,i<vs.length→a≠⟨g,o+i,none⟩)→(Vt g W o vs).cell? a=W.cell? a
 | [],_,_,_,_=>rfl
 | v :: vs,W,o,a,h=>(M4 vs _ (o+1) a fun i hi=>by rw[Nat.add_assoc,Nat.add_comm 1 i];exact h (i+1) (Nat.succ_lt_succ hi)).trans (ZA _ _ _ _ (by first|exact h 0 (Nat.succ_pos _)|exact (h 0 (Nat.succ_pos _)).symm))
theorem KJ{g:Nat}:∀(vs:List Value) (W:World) (o j:Nat) (v:Value),vs[j]?=some v→(∀i,i<vs.length→∃u,W.cell? ⟨g,o+i,none⟩=some u)→(Vt g W o vs).cell? ⟨g,o+j,none⟩=some v
 | [],_,_,j,v,h,_=>by simp at h
 | u :: vs,W,o,0,v,h,hc=>by
  obtain rfl:u=v:=asN;obtain⟨x,hx⟩:=hc 0 (Nat.succ_pos _);rw[Vt,M4 vs _ (o+1) _ (fun i _ e=>atP)];exact World.cell?_setCell_same _ _ _ hx
 | u :: vs,W,o,j+1,v,h,hc=>by
  rw[Vt,show o+(j+1)=o+1+j by omega];refine KJ vs _ (o+1) j v asN fun i hi=>?_;obtain⟨x,hx⟩:=hc (i+1) (Nat.succ_lt_succ hi);rw[show o+(i+1)=o+1+i by omega]at hx;exact⟨x,(ZA _ _ _ _ (by intro e;injection e with _ e2;omega)).trans hx⟩
theorem au{α:Type}{base:Nat}{e:TypeId}{C g n cap:Nat}{f:α→List Value}(hC:∀y,(f y).length=C){W:World}{l:List α}{post:List Value}(x:α)(ZC:l.length<n)(h:W.ownsRow base e C (.slice (some ⟨g,0,none⟩) n cap) n ((l.map f).flatten++post)) :
  ∃post',(Vt g W (l.length*C) (f x)).ownsRow base e C (.slice (some ⟨g,0,none⟩) n cap) n (((l++[x]).map f).flatten++post')∧W.grownBy (Vt g W (l.length*C) (f x)) (some g):=by
 have hl:=Ob f C l fun y _=>hC y;obtain⟨h1,h2⟩:=Eg (f x) W (l.length*C) _ h;refine⟨post.drop (f x).length,?_,h2⟩;have XQ:=h.1;rw[Zj,hl]at XQ;have hp:(f x).length≤post.length:=by
  rw[hC];have:(l.length+1)*C≤n*C:=Nat.mul_le_mul_right C ZC;rw[Nat.succ_mul]at this;omega
 rw[←hl,xa _ _ _ hp,hl]at h1;simpa using h1
theorem cF{α:Type}{base:Nat}{e:TypeId}{C g n cap:Nat}{f:α→List Value}(hC:∀y,(f y).length=C){W:World}{l:List α}{post:List Value}(h:W.ownsRow base e C (.slice (some ⟨g,0,none⟩) n cap) n ((l.map f).flatten++post)):Xa W C f (some ⟨g,0,none⟩) l:=by
 intro i x hx;refine⟨_,rfl,fun j v hv=>?_⟩;have hj:j<C:=by have:=(Zi.1 hv).1;rwa [hC x]at this
 have hl:=Ob f C l fun y _=>hC y;have hi:i<l.length:=(Zi.1 hx).1;have h1:=h.1;rw[Zj,hl]at h1;have hk0:i*C+j<l.length*C:=Zu (show i*C+j<(i+1)*C by rw[Nat.succ_mul];omega) (Nat.mul_le_mul_right C hi);rw[Addr.add_lit,Addr.add_lit,Zv];rw[h.cellAt _ asB,List.getElem?_append_left asB,M3 f C l i j x (fun y _=>hC y) hx hj,hv]
end Go.Proofs.YtknmeggfokpbjaaGreat

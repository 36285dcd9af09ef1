/-
  WHAT IS PROVED HERE: a part of the proof (made narrower and merged by program; the parts: Wa Dr Ds).
-/
import Derived.Laws.OwnMore
import Derived.Deep.AppendLies
import Derived.OwnWalkIn
import Derived.OwnWalk
import Derived.Laws.MakeOwn
import Derived.Test.YtobhijbncchpiaaGreatM2
import Derived.Test.YtobhijbncchpiaaGreatM21
namespace Go.Proofs.YtobhijbncchpiaaGreat
open Go.RowKit
theorem flat_at {α:Type} (f:α→List Value) (C:Nat):∀ (l:List α) (i j:Nat) (x:α),(∀ y ∈ l,(f y).length=C)→l[i]?=some x→j < C→((l.map f).flatten)[i*C+j]?=(f x)[j]?
 | [],i,j,x,_,h,_=>by simp at h
 | a :: l,0,j,x,hC,h,hj=>by
  simp only [List.getElem?_cons_zero,Option.some.injEq] at h
  subst h
  have h1:=hC a (List.mem_cons_self ..)
  rw [List.map_cons,List.flatten_cons,Nat.zero_mul,Nat.zero_add,List.getElem?_append_left (by omega)]
 | a :: l,i+1,j,x,hC,h,hj=>by
  simp only [List.getElem?_cons_succ] at h
  have h1:=hC a (List.mem_cons_self ..)
  have e:(i+1)*C+j=C+(i*C+j):=by rw [Nat.succ_mul];omega
  rw [List.map_cons,List.flatten_cons,e,List.getElem?_append_right (by omega),h1,Nat.add_sub_cancel_left]
  exact flat_at f C l i j x (fun y hy=>hC y (List.mem_cons_of_mem _ hy)) h hj
theorem flat_length {α:Type} (f:α→List Value) (C:Nat):∀ (l:List α),(∀ y ∈ l,(f y).length=C)→((l.map f).flatten).length=l.length*C
 | [],_=>by simp
 | a :: l,hC=>by
  have h1:=hC a (List.mem_cons_self ..)
  have h2:=flat_length f C l (fun y hy=>hC y (List.mem_cons_of_mem _ hy))
  rw [List.map_cons,List.flatten_cons,List.length_append,h1,h2,List.length_cons,Nat.succ_mul,Nat.add_comm]
theorem flat_mem {α:Type} (f:α→List Value) (l:List α) (u:Value) (h:u ∈ (l.map f).flatten):∃ y ∈ l,u ∈ f y:=by
 rw [List.mem_flatten] at h
 obtain⟨L,hL,hu⟩:=h
 rw [List.mem_map] at hL
 obtain⟨y,hy,rfl⟩:=hL
 exact⟨y,hy,hu⟩
/-- All cells of a row that came in, in one list. -/
theorem row_flat {α:Type} {w:World} {C:Nat} {f:α→List Value} {ad:Addr} {l:List α} (hrow:RowAt w C f (some ad) l) (hC:∀ y ∈ l,(f y).length=C) (hC0:0 < C) :
  ∀ j u,((l.map f).flatten)[j]?=some u→w.cell? (ad.add j)=some u:=by
 intro j u hu
 have hj:j < l.length*C:=by rw [← flat_length f C l hC];exact (List.getElem?_eq_some_iff.1 hu).1
 have hd:j / C < l.length:=Nat.div_lt_of_lt_mul (by rw [Nat.mul_comm];exact hj)
 have hx:l[j / C]?=some l[j / C]:=List.getElem?_eq_getElem hd
 have e:j=j / C*C+j % C:=by rw [Nat.mul_comm];exact (Nat.div_add_mod j C).symm
 have hm:j % C < C:=Nat.mod_lt _ hC0
 rw [e,flat_at f C l _ _ _ hC hx hm] at hu
 obtain⟨a,ha,hc⟩:=hrow _ _ hx
 obtain rfl:ad=a:=by simpa using ha
 have:=hc _ _ hu
 rw [Addr.add_add,← e] at this
 exact this
/-- What a row of one's own holds lies there item by item. -/
theorem own_row {α:Type} {w:World} {base:Nat} {e:TypeId} {C n g cap:Nat} {f:α→List Value} {l:List α} (h:w.ownsRow base e C (.slice (some ⟨g,0,none⟩) n cap) n ((l.map f).flatten)) (hC:∀ y ∈ l,(f y).length=C):RowAt w C f (some ⟨g,0,none⟩) l:=by
 intro i x hx
 refine⟨_,rfl,fun j v hv=>?_⟩
 have hj:j < C:=by have:=(List.getElem?_eq_some_iff.1 hv).1;rw [hC x (List.mem_of_getElem? hx)] at this;exact this
 have hl:=flat_length f C l hC
 have h1:=h.1
 have hi:i < l.length:=(List.getElem?_eq_some_iff.1 hx).1
 have hk:i*C+j < n*C:=by
  rw [← h1,hl]
  exact Nat.lt_of_lt_of_le (show i*C+j < (i+1)*C by rw [Nat.succ_mul];omega) (Nat.mul_le_mul_right C hi)
 rw [Addr.add_lit,Addr.add_lit,Nat.zero_add]
 rw [h.cellAt _ hk,flat_at f C l i j x hC hx hj,hv]
section
variable {P:Program} {w:World}
theorem run_append_none (base:Nat) (t ty e:TypeId) (i:TypeInfo) (size:Nat) (ht:P.underlying t=some (.slice e)) (hi:P.info? e=some i)
  (v:Value) (n:Nat) (xs:List Value) (c:Nat) (hown:w.ownsRow base e size v n xs) :
  (Builtin.append_ #[t,t] ty #[v,.slice none 0 c]).run P w=.ok v w:=by
 rcases hown.2 with ⟨rfl,rfl⟩ | ⟨g,cap,cur,rfl,_,_,hnc,_⟩
 ·simp [Builtin.append_,run_underlying ht,sizeOf,typeInfo,hi,Builtin.lenOf,Builtin.firstCells]
 ·simp [Builtin.append_,run_underlying ht,sizeOf,typeInfo,hi,Builtin.lenOf,Builtin.firstCells,hnc,storeCells]
theorem wpList_append_sl {α:Type} {ops:Array Oper} {rest:List Oper} {o:Oper} {a:Act} {Q:Exit→Act→World→Prop} (hgd:o.guard=none) (s x:Operand) (t:TypeId)
  (ho:o.op=.call { callee:=.builtin .append,args:=#[s,x],argTypes:=#[t,t] })
  (base:Nat) (e:TypeId) (i:TypeInfo) (z:Value) (size bytes:Nat) (ht:P.underlying t=some (.slice e)) (hi:P.info? e=some i) (hz:i.zero=some z)
  (hsize:i.size=size) (hby:i.bytes=bytes) (hzs:z.cells.size=size) (hsz:0 < size)
  (v:Value) (n:Nat) (xs:List Value) (hs:a.eval s=v) (hown:w.ownsRow base e size v n xs)
  (p:Option Addr) (m c:Nat) (l:List α) (f:α→List Value) (hx:a.eval x=.slice p m c) (hm:l.length=m) (hrow:RowAt w size f p l) (hC:∀ y ∈ l,(f y).length=size) (h1:∀ y ∈ l,∀ u ∈ f y,u.oneCell'=true)
  (h63:n+m≤maxLen) (hbytes:(n+m)*bytes≤140737488355328) (hbase:base≤w.heap.size)
  (h:∀ v' w',w'.ownsRow base e size v' (n+m) (xs++(l.map f).flatten)→w.grownBy w' v.ownBlock→wpList P ops Q rest (a.put o.dst v') w'):wpList P ops Q (o :: rest) a w:=by
 cases p with
 | none =>
  obtain rfl:l=[]:=by
   cases l with
   | nil=>rfl
   | cons y l=>obtain⟨_,h,_⟩:=hrow 0 y rfl;cases h
  obtain rfl:m=0:=by rw [← hm];rfl
  refine wpList_plain hgd fun K hK=>?_
  have hrun:=run_append_none (P:=P) (w:=w) base t o.type e i size ht hi v n xs c hown
  unfold Oper.wp
  simp [execOp,ho,resolve,invoke,builtin,hs,hx,hrun,Result.andThen]
  exact hK _ _ (h v w (by simpa using hown) (World.grownBy.mk rfl rfl rfl (Nat.le_refl _) fun _ _ _=>rfl))
 | some ad =>
  exact wpList_append_own w hgd s x t ho base e i z size bytes ht hi hz hsize hby hzs hsz v n xs hs hown ad m c _ hx (by rw [flat_length f size l hC,hm]) (row_flat hrow hC hsz)
   (fun u hu=>by obtain⟨y,hy,hu⟩:=flat_mem f l u hu;exact h1 y hy u hu) h63 hbytes hbase fun v' w' h2 h3 _=>h v' w' h2 h3
/-- The same inside a fence. -/
theorem wpListIn_append_sl {α:Type} {F:Fence} {N:Nat} {ops:Array Oper} {rest:List Oper} {o:Oper} {a:Act} {Q:Exit→Act→World→Prop} (hgd:o.guard=none) (s x:Operand) (t:TypeId)
  (ho:o.op=.call { callee:=.builtin .append,args:=#[s,x],argTypes:=#[t,t] })
  (base:Nat) (e:TypeId) (i:TypeInfo) (z:Value) (size bytes:Nat) (ht:P.underlying t=some (.slice e)) (hi:P.info? e=some i) (hz:i.zero=some z)
  (hsize:i.size=size) (hby:i.bytes=bytes) (hzs:z.cells.size=size) (hsz:0 < size)
  (v:Value) (n:Nat) (xs:List Value) (hs:a.eval s=v) (hown:w.ownsRow base e size v n xs)
  (p:Option Addr) (m c:Nat) (l:List α) (f:α→List Value) (hx:a.eval x=.slice p m c) (hm:l.length=m) (hrow:RowAt w size f p l) (hC:∀ y ∈ l,(f y).length=size) (h1:∀ y ∈ l,∀ u ∈ f y,u.oneCell'=true)
  (h63:n+m≤maxLen) (hbytes:(n+m)*bytes≤140737488355328) (hbase:base≤w.heap.size)
  (h:∀ v' w',w'.ownsRow base e size v' (n+m) (xs++(l.map f).flatten)→w.grownBy w' v.ownBlock→wpListIn F N P ops Q rest (a.put o.dst v') w'):wpListIn F N P ops Q (o :: rest) a w:=by
 cases p with
 | none =>
  obtain rfl:l=[]:=by
   cases l with
   | nil=>rfl
   | cons y l=>obtain⟨_,h,_⟩:=hrow 0 y rfl;cases h
  obtain rfl:m=0:=by rw [← hm];rfl
  refine wpListIn_plain hgd fun K hK=>?_
  have hrun:=run_append_none (P:=P) (w:=w) base t o.type e i size ht hi v n xs c hown
  unfold Oper.wpIn
  refine⟨?_,?_⟩
  ·simp [Oper.about,ho,resolve,Target.leads,Sem.run_pure]
  ·rw [Oper.semAt_plain F _ _ (by rw [ho];intro c hc';cases hc')]
   simp [execOp,ho,resolve,invoke,builtin,hs,hx,hrun,Result.andThen]
   exact hK _ _ (h v w (by simpa using hown) (World.grownBy.mk rfl rfl rfl (Nat.le_refl _) fun _ _ _=>rfl))
 | some ad =>
  exact wpListIn_append_own w hgd s x t ho base e i z size bytes ht hi hz hsize hby hzs hsz v n xs hs hown ad m c _ hx (by rw [flat_length f size l hC,hm]) (row_flat hrow hC hsz)
   (fun u hu=>by obtain⟨y,hy,hu⟩:=flat_mem f l u hu;exact h1 y hy u hu) h63 hbytes hbase fun v' w' h2 h3 _=>h v' w' h2 h3
theorem own_sl {w:World} {base:Nat} {e:TypeId} {size:Nat} {v:Value} {n:Nat} {xs:List Value} (h:w.ownsRow base e size v n xs) (hn:0 < n):∃ g cap,v=.slice (some ⟨g,0,none⟩) n cap∧base≤g∧g < w.heap.size:=by
 rcases h.2 with ⟨rfl,h0⟩ | ⟨g,cap,cur,rfl,hg,hh,_⟩
 ·omega
 ·exact⟨g,cap,rfl,hg,(Array.getElem?_eq_some_iff.1 hh).1⟩
end
theorem add_block (a:Addr) (n:Nat):(a.add n).block=a.block:=by
 unfold Addr.add
 split <;> rfl
/-- An expression's Args lie in rows of expressions, from a block on. -/
inductive ExO (n:Nat) (W:World):Ex→Prop where
 | mk (e:Ex) (row:0 < e.args.length→∃ a cur fz,e.p=some a∧n≤a.block∧W.heap[a.block]?=some (.cells cur 45 fz)) (kids:∀ x ∈ e.args,ExO n W x):ExO n W e
theorem ExO.mono {n m:Nat} {W:World} (hm:m≤n):∀ {e:Ex},ExO n W e→ExO m W e:=fun {e} h=>by
 induction h with
 | mk e row _ ih=>exact .mk e (fun h=>by obtain⟨a,cur,fz,h1,h2,h3⟩:=row h;exact⟨a,cur,fz,h1,Nat.le_trans hm h2,h3⟩) ih
theorem exo_keep {n:Nat} {W W':World} (hk:∀ b cur fz,n≤b→W.heap[b]?=some (.cells cur 45 fz)→W'.heap[b]?=some (.cells cur 45 fz)):∀ e:Ex,e.In W→ExO n W e→e.In W'∧ExO n W' e:=fun e=>Ex.ind (Q:=fun e=>e.In W→ExO n W e→e.In W'∧ExO n W' e) (fun e ih hi ho=>by
 obtain⟨_,op,lit,hi,lo,hd,nm,len,cap,row,kids⟩:=hi
 obtain⟨_,row2,kids2⟩:=ho
 have hk2:=fun x hx=>ih x hx (kids x hx) (kids2 x hx)
 refine⟨.mk e op lit hi lo hd nm len cap (fun i x hx=>?_) fun x hx=>(hk2 x hx).1,.mk e (fun h=>?_) fun x hx=>(hk2 x hx).2⟩
 ·obtain⟨a,ha,hc⟩:=row i x hx
  obtain⟨a2,cur,fz,h1,h2,h3⟩:=row2 (by have:=(List.getElem?_eq_some_iff.1 hx).1;omega)
  rw [h1] at ha
  obtain rfl:=Option.some.inj ha
  have h4:=hk _ _ _ h2 h3
  exact⟨a2,h1,fun j v hj=>(World.cell?_of_block (show W'.heap[((a2.add (i*9)).add j).block]?=W.heap[((a2.add (i*9)).add j).block]? from by rw [add_block,add_block];exact h4.trans h3.symm)).trans (hc j v hj)⟩
 ·obtain⟨a2,cur,fz,h1,h2,h3⟩:=row2 h
  exact⟨a2,cur,fz,h1,h2,hk _ _ _ h2 h3⟩) e
theorem ExO.plus {n:Nat} {W:World} {e:Ex} (hi:e.In W) (ho:ExO n W e) (x:Ext):ExO n (plus W x) e:=(exo_keep (fun b _ _ _ h=>((below_plus W x).block b (Array.getElem?_eq_some_iff.1 h).1).trans h) e hi ho).2
/-- Things written one behind the other from a place on. -/
def setsFrom:List Value→Nat→List Value→List Value
 | xs,_,[]=>xs
 | xs,o,v :: vs=>setsFrom (xs.set o v) (o+1) vs
def cellsFrom (g:Nat):World→Nat→List Value→World
 | W,_,[]=>W
 | W,o,v :: vs=>cellsFrom g (W.setCell ⟨g,o,none⟩ v) (o+1) vs
theorem setsFrom_eq:∀ (vs A B:List Value),vs.length≤B.length→setsFrom (A++B) A.length vs=A++vs++B.drop vs.length
 | [],A,B,_=>by simp [setsFrom]
 | v :: vs,A,b :: B,h=>by
  rw [setsFrom,List.set_append_right _ _ (Nat.le_refl _),Nat.sub_self,List.set_cons_zero]
  have:=setsFrom_eq vs (A++[v]) B (by simpa using h)
  rw [List.length_append,List.length_singleton] at this
  rw [show A++v :: B=A++[v]++B by simp,this]
  simp
 | v :: vs,A,[],h=>by simp at h
theorem storedFrom {base:Nat} {e:TypeId} {size g n cap:Nat}:∀ (vs:List Value) (W:World) (o:Nat) (xs:List Value),W.ownsRow base e size (.slice (some ⟨g,0,none⟩) n cap) n xs →
  (cellsFrom g W o vs).ownsRow base e size (.slice (some ⟨g,0,none⟩) n cap) n (setsFrom xs o vs)∧W.grownBy (cellsFrom g W o vs) (some g)
 | [],W,o,xs,h=>⟨h,World.grownBy.mk rfl rfl rfl (Nat.le_refl _) fun _ _ _=>rfl⟩
 | v :: vs,W,o,xs,h=>by
  obtain⟨h1,h2⟩:=h.stored o v
  obtain⟨h3,h4⟩:=storedFrom vs _ (o+1) _ h1
  exact⟨h3,World.grownBy.mk (h4.os.trans h2.os) (h4.tape.trans h2.tape) (h4.output.trans h2.output) (Nat.le_trans h2.size h4.size) fun k hk hne=>(h4.block k (Nat.lt_of_lt_of_le hk h2.size) hne).trans (h2.block k hk hne)⟩
theorem from_heap {g:Nat}:∀ (vs:List Value) (W:World) (o k:Nat),k≠g→(cellsFrom g W o vs).heap[k]?=W.heap[k]?
 | [],_,_,_,_=>rfl
 | v :: vs,W,o,k,h=>(from_heap vs _ (o+1) k h).trans (Below.heap_setCell W ⟨g,o,none⟩ v k h)
theorem from_size {g:Nat}:∀ (vs:List Value) (W:World) (o:Nat),(cellsFrom g W o vs).heap.size=W.heap.size
 | [],_,_=>rfl
 | v :: vs,W,o=>(from_size vs _ (o+1)).trans (by simp)
theorem from_below {g B:Nat} (hB:B≤g):∀ (vs:List Value) (W:World) (o:Nat),Below B W (cellsFrom g W o vs)
 | [],_,_=>Below.refl _ _
 | v :: vs,W,o=>((Below.refl B W).setCell (p:=⟨g,o,none⟩) hB v).trans (from_below hB vs _ (o+1))
theorem from_other {g:Nat}:∀ (vs:List Value) (W:World) (o:Nat) (a:Addr),(∀ i,i < vs.length→a≠⟨g,o+i,none⟩)→(cellsFrom g W o vs).cell? a=W.cell? a
 | [],_,_,_,_=>rfl
 | v :: vs,W,o,a,h=>(from_other vs _ (o+1) a fun i hi=>by rw [Nat.add_assoc,Nat.add_comm 1 i];exact h (i+1) (Nat.succ_lt_succ hi)).trans (World.cell?_setCell_other _ _ _ _ (by first | exact h 0 (Nat.succ_pos _) | exact (h 0 (Nat.succ_pos _)).symm))
theorem from_cell {g:Nat}:∀ (vs:List Value) (W:World) (o j:Nat) (v:Value),vs[j]?=some v→(∀ i,i < vs.length→∃ u,W.cell? ⟨g,o+i,none⟩=some u)→(cellsFrom g W o vs).cell? ⟨g,o+j,none⟩=some v
 | [],_,_,j,v,h,_=>by simp at h
 | u :: vs,W,o,0,v,h,hc=>by
  obtain rfl:u=v:=by simpa using h
  obtain⟨x,hx⟩:=hc 0 (Nat.succ_pos _)
  rw [cellsFrom,from_other vs _ (o+1) _ (fun i _ e=>by injection e with _ e2;omega)]
  exact World.cell?_setCell_same _ _ _ hx
 | u :: vs,W,o,j+1,v,h,hc=>by
  rw [cellsFrom,show o+(j+1)=o+1+j by omega]
  refine from_cell vs _ (o+1) j v (by simpa using h) fun i hi=>?_
  obtain⟨x,hx⟩:=hc (i+1) (Nat.succ_lt_succ hi)
  rw [show o+(i+1)=o+1+i by omega] at hx
  exact⟨x,(World.cell?_setCell_other _ _ _ _ (by intro e;injection e with _ e2;omega)).trans hx⟩
/-- The k-th thing of a row is written: k + 1 of them stand. -/
theorem stored_next {α:Type} {base:Nat} {e:TypeId} {C g n cap:Nat} {f:α→List Value} (hC:∀ y,(f y).length=C) {W:World} {l:List α} {post:List Value} (x:α) (hlt:l.length < n)
  (h:W.ownsRow base e C (.slice (some ⟨g,0,none⟩) n cap) n ((l.map f).flatten++post)) :
  ∃ post',(cellsFrom g W (l.length*C) (f x)).ownsRow base e C (.slice (some ⟨g,0,none⟩) n cap) n (((l++[x]).map f).flatten++post')∧W.grownBy (cellsFrom g W (l.length*C) (f x)) (some g):=by
 have hl:=flat_length f C l fun y _=>hC y
 obtain⟨h1,h2⟩:=storedFrom (f x) W (l.length*C) _ h
 refine⟨post.drop (f x).length,?_,h2⟩
 have hlen:=h.1
 rw [List.length_append,hl] at hlen
 have hp:(f x).length≤post.length:=by
  rw [hC]
  have:(l.length+1)*C≤n*C:=Nat.mul_le_mul_right C hlt
  rw [Nat.succ_mul] at this
  omega
 rw [← hl,setsFrom_eq _ _ _ hp,hl] at h1
 simpa using h1
/-- What has been written of a row lies there. -/
theorem row_pre {α:Type} {base:Nat} {e:TypeId} {C g n cap:Nat} {f:α→List Value} (hC:∀ y,(f y).length=C) {W:World} {l:List α} {post:List Value}
  (h:W.ownsRow base e C (.slice (some ⟨g,0,none⟩) n cap) n ((l.map f).flatten++post)):RowAt W C f (some ⟨g,0,none⟩) l:=by
 intro i x hx
 refine⟨_,rfl,fun j v hv=>?_⟩
 have hj:j < C:=by have:=(List.getElem?_eq_some_iff.1 hv).1;rwa [hC x] at this
 have hl:=flat_length f C l fun y _=>hC y
 have hi:i < l.length:=(List.getElem?_eq_some_iff.1 hx).1
 have h1:=h.1
 rw [List.length_append,hl] at h1
 have hk0:i*C+j < l.length*C:=Nat.lt_of_lt_of_le (show i*C+j < (i+1)*C by rw [Nat.succ_mul];omega) (Nat.mul_le_mul_right C hi)
 rw [Addr.add_lit,Addr.add_lit,Nat.zero_add]
 rw [h.cellAt _ (by omega),List.getElem?_append_left (by omega),flat_at f C l i j x (fun y _=>hC y) hx hj,hv]
theorem own_plus {base:Nat} {e:TypeId} {C n:Nat} {v:Value} {xs:List Value} {W:World} (h:W.ownsRow base e C v n xs) (y:Ext):(plus W y).ownsRow base e C v n xs:=by
 obtain⟨h1,h2⟩:=h
 refine⟨h1,?_⟩
 rcases h2 with h2 | ⟨g,cap,cur,hv,hg,hh,rest⟩
 ·exact .inl h2
 ·exact .inr ⟨g,cap,cur,hv,hg,((below_plus W y).block g (Array.getElem?_eq_some_iff.1 hh).1).trans hh,rest⟩
theorem ownr_alloc {base:Nat} {e:TypeId} {C n:Nat} {v:Value} {xs:List Value} {W:World} (h:W.ownsRow base e C v n xs) (o:Obj):(W.alloc o).ownsRow base e C v n xs:=by
 obtain⟨y,hy⟩:=plus_of_below ((Below.refl W.heap.size W).alloc (Nat.le_refl _) o)
 rw [hy];exact own_plus h y
theorem own_lt {base:Nat} {e:TypeId} {C n g cap:Nat} {xs:List Value} {W:World} (h:W.ownsRow base e C (.slice (some ⟨g,0,none⟩) n cap) n xs):g < W.heap.size∧∃ cur,W.heap[g]?=some (.cells cur e (0,0))∧cur.size=cap*C:=by
 rcases h.2 with ⟨h2,_⟩ | ⟨g2,cap2,cur,hv,hg,hh,_,_,hs,_⟩
 ·cases h2
 ·simp only [Value.slice.injEq,Option.some.injEq,Addr.mk.injEq,and_true,true_and] at hv
  obtain⟨rfl,rfl⟩:=hv
  exact⟨(Array.getElem?_eq_some_iff.1 hh).1,cur,hh,hs⟩
/-- A row's cells, one after the other, are there to be written. -/
theorem own_there {base:Nat} {e:TypeId} {C n g cap:Nat} {xs:List Value} {W:World} (h:W.ownsRow base e C (.slice (some ⟨g,0,none⟩) n cap) n xs) (k j:Nat) (hk:k < n) (hj:j < C):∃ v,W.cell? ⟨g,k*C+j,none⟩=some v:=by
 have hlt:k*C+j < n*C:=Nat.lt_of_lt_of_le (show k*C+j < (k+1)*C by rw [Nat.succ_mul];omega) (Nat.mul_le_mul_right C hk)
 rw [h.cellAt _ hlt]
 exact⟨_,List.getElem?_eq_getElem (by rw [h.1];exact hlt)⟩
/-- An expression that is handed back: like e, in memory laid since n. -/
def CopyE (e:Ex):Prop:=∀ w,e.In w→e.wt≤1048576→Calls Tryz.prog 97 #[e.val] w fun E w'=>∃ e':Ex,E=.returned e'.val∧(∃ x,w'=plus w x)∧e'.In w'∧ExO w.heap.size w' e'∧e'.bare=e.bare
/-- So of a list. -/
structure CopyL (n:Nat) (W:World) (q:Option Addr) (d:Nat) (l l':List Ex):Prop where
 row:RowAt W 9 Ex.cells q l'
 own:0 < l'.length→∃ a cur fz,q=some a∧n≤a.block∧W.heap[a.block]?=some (.cells cur 45 fz)
 kids:∀ x ∈ l',x.In W∧ExO n W x
 like:l'.map Ex.bare=l.map Ex.bare
 len:l'.length≤d
 cap:d≤maxLen
theorem expr_info:(Tryz.prog.info? 45).map (fun i=>(i.zero,i.size,i.bytes))=some (some (.agg #[.int .u8 0,.int .i64 0,.int .u64 0,.int .u64 0,.string ⟨#[]⟩,.string ⟨#[]⟩,.int .i64 0,.int .i64 0,.slice none 0 0]),9,104):=by kernel_rfl
theorem make_exprs (n:Nat) (hn:n≤1048576) (w:World):∃ cs:Array Value,cs.size=n*9∧(Instr.makeSlice 43 (.int .i64 (n:Int)) (.int .i64 (n:Int))).run Tryz.prog w=.ok (.slice (some ⟨w.heap.size,0,none⟩) n n) (w.alloc (.cells cs 45)):=by
 obtain⟨i0,hi0,hi1,hi2,hi3⟩:=info_parts expr_info
 have h:=run_make (P:=Tryz.prog) w 43 45 i0 _ Tryz.underlying43 hi0 hi1 .i64 .i64 (n:Int) (n:Int) (by omega) (by omega) (by rw [hi3];omega) (by omega)
 rw [Int.toNat_natCast,hi2] at h
 exact⟨_,size_madeCells _ _,h⟩
set_option maxRecDepth 100000 in
set_option maxHeartbeats 16000000 in
theorem copied_exprs (l:List Ex) (ih:∀ x ∈ l,CopyE x) (p:Option Addr) (c:Nat) (w:World) (hrow:RowAt w 9 Ex.cells p l) (hkids:∀ x ∈ l,x.In w) (hz:(l.map Ex.wt).sum≤1048576) :
  Calls Tryz.prog 163 #[.slice p l.length c,.func (.func 97) #[] #[]] w fun E w'=>∃ (q:Option Addr) (d:Nat) (l':List Ex),E=.returned (.slice q l'.length d)∧(∃ x,w'=plus w x)∧CopyL w.heap.size w' q d l l':=by
 have hl:l.length≤1048576:=by have:=length_le_sum Ex.wt (fun e=>by have:=Ex.wt_eq e;omega) l;omega
 have hsum:=Lib.hid (fun x hx=>Nat.le_trans (le_sum_of Ex.wt l x hx) hz)
 have hrow':=Lib.hid hrow
 have hkids':=Lib.hid hkids
 have ih':=Lib.hid ih
 obtain⟨n,hn⟩:∃ n,l.length=n:=⟨_,rfl⟩
 rw [hn] at hl ⊢
 have hn':=Lib.hid hn
 have hl':=Lib.hid hl
 clear hrow hkids ih hn hl hz
 cases p with
 | none =>
  have h0:l=[]:=by
   cases l with
   | nil=>rfl
   | cons x l=>obtain⟨a,h,_⟩:=hrow'.out 0 x rfl;cases h
  subst h0
  have he:∀ w:World,(binOp .eql 43 (.slice none n c) (.slice none 0 0)).run Tryz.prog w=.ok (.bool true) w:=fun _=>rfl
  obtain rfl:n=0:=hn'.out.symm
  go_enter Tryz.func163,Tryz.ntmps163
  go_wp2
  go_ret
  exact⟨none,0,[],rfl,⟨_,(plus_self _).symm⟩,⟨fun i x h=>(by simp at h),fun h=>absurd h (Nat.lt_irrefl _),fun x h=>(by cases h),rfl,Nat.le_refl _,Nat.zero_le _⟩⟩
 | some pa =>
  have he:∀ w:World,(binOp .eql 43 (.slice (some pa) n c) (.slice none 0 0)).run Tryz.prog w=.ok (.bool false) w:=fun _=>rfl
  obtain⟨cs,hcs,hmk⟩:=make_exprs n hl'.out w
  go_enter Tryz.func163,Tryz.ntmps163
  go_wp2
  have hO:(w.alloc (.cells cs 45)).ownsRow w.heap.size 45 9 (.slice (some ⟨w.heap.size,0,none⟩) n n) n cs.toList:=World.ownsRow_lit w cs n (Nat.le_refl _) (by have:=hl'.out;unfold maxLen;omega) hcs
  obtain⟨g,hg⟩:∃ g,w.heap.size=g:=⟨_,rfl⟩
  have hV:∃ z,w.alloc (.cells cs 45)=plus w z:=plus_of_below ((Below.refl w.heap.size w).alloc (Nat.le_refl _) _)
  rw [hg] at hO ⊢
  generalize w.alloc (.cells cs 45)=V at hO hV ⊢
  clear hmk he
  go_loopw [6,7,15] (fun _ _ iv wr=>∃ (k:Nat) (l':List Ex) (post:List Value),k≤n∧iv=.int .i64 (k:Int)∧l'.length=k∧wr.ownsRow g 45 9 (.slice (some ⟨g,0,none⟩) n n) n ((l'.map Ex.cells).flatten++post)∧(∀ x ∈ l',x.In wr∧ExO (g+1) wr x)∧l'.map Ex.bare=(l.take k).map Ex.bare∧∃ z,wr=plus w z) (fun _ _ iv _=>n - (intOf iv).toNat)
  case atStart=>exact⟨0,[],cs.toList,Nat.zero_le _,rfl,rfl,hO,fun x h=>by (cases h),by simp,hV⟩
  case round =>
   obtain⟨k,l',post,hk,rfl,hlk,hO,hkid,hlike,z,hz⟩:=hrel
   by_cases hlt:k < n
   ·obtain⟨x,hx⟩:∃ x,l[k]?=some x:=⟨l[k]'(by rw [hn'.out];exact hlt),List.getElem?_eq_getElem _⟩
    have hmem:=List.mem_of_getElem? hx
    obtain⟨pa2,hpa,hc⟩:=hrow'.out k x hx
    obtain rfl:=Option.some.inj hpa
    have hcw:CellsAt wr (pa.add (k*9)) x.cells:=by rw [hz];exact hc.plus z
    have d0:=hcw.c0 _ rfl
    have d1:=hcw.cs 0 _ rfl
    have d2:=hcw.cs 1 _ rfl
    have d3:=hcw.cs 2 _ rfl
    have d4:=hcw.cs 3 _ rfl
    have d5:=hcw.cs 4 _ rfl
    have d6:=hcw.cs 5 _ rfl
    have d7:=hcw.cs 6 _ rfl
    have d8:=hcw.cs 7 _ rfl
    have q:=Lib.hid (fun (o:Obj)=>ih'.out x hmem (wr.alloc o) (by obtain⟨y,hy⟩:=plus_of_below ((Below.refl wr.heap.size wr).alloc (Nat.le_refl _) o);rw [hy];have q:=(hkids'.out x hmem).plus z;rw [← hz] at q;exact q.plus y) (hsum.out x hmem))
    simp only [Ex.val,Ex.cells] at q
    have a6:=Lib.hid (wr_succ k n hlt hl'.out)
    have hO':=Lib.hid hO
    have hkid':=Lib.hid hkid
    have hlike':=Lib.hid hlike
    have hz':=Lib.hid hz
    have hx':=Lib.hid hx
    have hlk':=Lib.hid hlk
    clear hcw hc hO hkid hlike hz hx hlk hpa hmem
    go_wp2_with (fail)
    refine (q.out _).mono ?_
    rintro E w' ⟨e2,rfl,⟨x1,rfl⟩,hin2,ho2,hb2⟩
    obtain⟨W1,hW1⟩:∃ W,plus (wr.alloc (.cells #[.int .u8 x.op,.int .i64 x.lit.w,.int .u64 x.lit.h,.int .u64 x.lit.l,.string x.head,.string x.name,.int .i64 x.hi,.int .i64 x.lo,.slice x.p x.args.length x.cap] 45)) x1=W:=⟨_,rfl⟩
    have hO1:=own_plus (ownr_alloc hO'.out (.cells #[.int .u8 x.op,.int .i64 x.lit.w,.int .u64 x.lit.h,.int .u64 x.lit.l,.string x.head,.string x.name,.int .i64 x.hi,.int .i64 x.lo,.slice x.p x.args.length x.cap] 45)) x1
    have hup:=plus_of_below (((Below.refl wr.heap.size wr).alloc (Nat.le_refl _) (.cells #[.int .u8 x.op,.int .i64 x.lit.w,.int .u64 x.lit.h,.int .u64 x.lit.l,.string x.head,.string x.name,.int .i64 x.hi,.int .i64 x.lo,.slice x.p x.args.length x.cap] 45)).trans ((below_plus _ x1).mono (by simp)))
    have hsz:=own_lt hO'.out
    have ho3:=ExO.mono (m:=g+1) (by simp;omega) ho2
    rw [hW1] at hin2 ho3 hO1 hup ⊢
    clear hW1 ho2 hsz q d0 d1 d2 d3 d4 d5 d6 d7 d8
    obtain⟨u0,c0⟩:=own_there hO1 k 0 hlt (by decide)
    rw [Nat.add_zero] at c0
    obtain⟨u1,c1⟩:=own_there hO1 k 1 hlt (by decide)
    obtain⟨u2,c2⟩:=own_there hO1 k 2 hlt (by decide)
    obtain⟨u3,c3⟩:=own_there hO1 k 3 hlt (by decide)
    obtain⟨u4,c4⟩:=own_there hO1 k 4 hlt (by decide)
    obtain⟨u5,c5⟩:=own_there hO1 k 5 hlt (by decide)
    obtain⟨u6',c6⟩:=own_there hO1 k 6 hlt (by decide)
    obtain⟨u7',c7⟩:=own_there hO1 k 7 hlt (by decide)
    obtain⟨u8',c8⟩:=own_there hO1 k 8 hlt (by decide)
    have hf:=fun o=>hO1.frozenAt o
    have hO1':=Lib.hid hO1
    have hin2':=Lib.hid hin2
    have ho3':=Lib.hid ho3
    have hup':=Lib.hid hup
    clear hO1 hin2 ho3 hup
    obtain⟨op2,⟨lw2,lh2,ll2⟩,hd2,nm2,hi2,lo2,p2,c2',args2⟩:=e2
    simp only [Ex.op,Ex.lit,Ex.head,Ex.name,Ex.hi,Ex.lo,Ex.p,Ex.args,Ex.cap]
    go_wp2
    obtain⟨post2,hO2,-⟩:=stored_next (f:=Ex.cells) (C:=9) (fun _=>rfl) (Ex.mk op2 ⟨lw2,lh2,ll2⟩ hd2 nm2 hi2 lo2 p2 c2' args2) (by rw [hlk'.out];exact hlt) hO1'.out
    rw [hlk'.out] at hO2
    have hkeep:∀ y:Ex,y.In W1→ExO (g+1) W1 y→y.In (cellsFrom g W1 (k*9) (Ex.cells (Ex.mk op2 ⟨lw2,lh2,ll2⟩ hd2 nm2 hi2 lo2 p2 c2' args2)))∧ExO (g+1) (cellsFrom g W1 (k*9) (Ex.cells (Ex.mk op2 ⟨lw2,lh2,ll2⟩ hd2 nm2 hi2 lo2 p2 c2' args2))) y :=
     fun y h1 h2=>exo_keep (fun b cur fz hb hh=>(from_heap _ W1 _ b (by omega)).trans hh) y h1 h2
    have hw2:∃ z,cellsFrom g W1 (k*9) (Ex.cells (Ex.mk op2 ⟨lw2,lh2,ll2⟩ hd2 nm2 hi2 lo2 p2 c2' args2))=plus w z:=by
     obtain⟨z1,h1⟩:=hup'.out
     refine plus_of_below (Below.trans ?_ (from_below (show w.heap.size≤g by omega) _ W1 _))
     rw [h1,hz'.out,plus_plus]
     exact below_plus w _
    refine⟨⟨k+1,l'++[Ex.mk op2 ⟨lw2,lh2,ll2⟩ hd2 nm2 hi2 lo2 p2 c2' args2],post2,hlt,congrArg (Value.int .i64) a6.out,by simp [hlk'.out],hO2,fun y hy=>?_,?_,hw2⟩,step_less k n hlt a6.out⟩
    ·rcases List.mem_append.1 hy with hy | hy
     ·obtain⟨z1,h1⟩:=hup'.out
      obtain⟨q1,q2⟩:=hkid'.out y hy
      exact hkeep y (by rw [h1];exact q1.plus z1) (by rw [h1];exact ExO.plus q1 q2 z1)
     ·obtain rfl:=List.mem_singleton.1 hy
      exact hkeep _ hin2'.out ho3'.out
    ·rw [List.take_add_one,hx'.out]
     simp [hlike'.out,hb2]
   ·obtain rfl:k=n:=by omega
    have hz':=Lib.hid hz
    clear hz
    go_wp2
    go_ret
    refine⟨some ⟨g,0,none⟩,k,l',by rw [hlk];rfl,⟨z,hz'.out⟩,row_pre (C:=9) (f:=Ex.cells) (fun _=>rfl) hO,fun _=>?_,(fun x hx=>And.intro (hkid x hx).1 (ExO.mono (by omega) (hkid x hx).2)),by rw [hlike,List.take_of_length_le (by rw [hn'.out];exact Nat.le_refl _)],by omega,by have:=hl'.out;unfold maxLen;omega⟩
    obtain⟨_,cur,h1,_⟩:=own_lt hO
    exact⟨_,cur,_,rfl,(by show w.heap.size≤g;omega),h1⟩
set_option maxRecDepth 100000 in
set_option maxHeartbeats 16000000 in
theorem copied_expr (e:Ex) (ih:∀ x ∈ e.args,CopyE x):CopyE e:=by
 intro w hin hz
 have hargs:(e.args.map Ex.wt).sum≤1048576:=by have:=Ex.wt_eq e;omega
 obtain⟨_,wop,wlit,whi,wlo,whd,wnm,_,_,hrow,hkids⟩:=hin
 have kl:=Lib.hid (fun W (hW:∃ z,W=plus w z)=>copied_exprs e.args ih e.p e.cap W (by obtain⟨z,rfl⟩:=hW;exact hrow.plus z) (by obtain⟨z,rfl⟩:=hW;exact fun x hx=>(hkids x hx).plus z) hargs)
 clear ih hrow hkids hz hargs
 have hbare:∀ (q:Option Addr) (d:Nat) (l':List Ex),l'.map Ex.bare=e.args.map Ex.bare→(Ex.mk e.op e.lit e.head e.name e.hi e.lo q d l').bare=e.bare:=fun q d l' h=>by
  rw [Ex.bare_eq,Ex.bare_eq e]
  simp only [Ex.op,Ex.lit,Ex.head,Ex.name,Ex.hi,Ex.lo,Ex.args]
  rw [h]
  rfl
 have hb':=Lib.hid hbare
 clear hbare
 obtain⟨op,⟨lw,lh,ll⟩,hd,nm,eh,el,ep,ec,eargs⟩:=e
 simp only [Ex.op,Ex.lit,Ex.head,Ex.name,Ex.hi,Ex.lo,Ex.p,Ex.args,Ex.cap] at wop wlit whi wlo whd wnm kl hb'
 simp only [Ex.val,Ex.cells,Ex.op,Ex.lit,Ex.head,Ex.name,Ex.hi,Ex.lo,Ex.p,Ex.args,Ex.cap]
 obtain⟨M,hM⟩:∃ M,eargs.length=M:=⟨_,rfl⟩
 rw [hM] at kl ⊢
 clear hM
 have hwf:=Lib.hid (And.intro wop (And.intro wlit (And.intro whi (And.intro wlo (And.intro whd wnm)))))
 clear wop wlit whi wlo whd wnm
 go_enter Tryz.func97,Tryz.ntmps97
 go_upto_region 1 with (fail)
 obtain⟨X,hX,hXB,hXs,ca,cb,fa,fb⟩:=box2 w #[.int .u8 op,.int .i64 lw,.int .u64 lh,.int .u64 ll,.string hd,.string nm,.int .i64 eh,.int .i64 el,.slice ep M ec] #[.int .u8 0,.int .i64 0,.int .u64 0,.int .u64 0,.string ⟨#[]⟩,.string ⟨#[]⟩,.int .i64 0,.int .i64 0,.slice none 0 0] 45 45
 rw [← hX]
 have hzX:=plus_of_below hXB
 have qk:=Lib.hid (kl.out X hzX)
 have g8:=ca 8 _ rfl ⟨#[],X.drawn⟩
 rw [plus_self] at g8
 clear kl hX
 go_wp2_with fail
 refine qk.out.mono ?_
 rintro E w' ⟨q,d,l',rfl,⟨x1,rfl⟩,hL⟩
 clear qk g8
 have a0:=ca 0 _ rfl x1
 have a1:=ca 1 _ rfl x1
 have a2:=ca 2 _ rfl x1
 have a3:=ca 3 _ rfl x1
 have a4:=ca 4 _ rfl x1
 have a5:=ca 5 _ rfl x1
 have a6:=ca 6 _ rfl x1
 have a7:=ca 7 _ rfl x1
 have a8:=ca 8 _ rfl x1
 have b0:=cb 0 _ rfl x1
 have b1:=cb 1 _ rfl x1
 have b2:=cb 2 _ rfl x1
 have b3:=cb 3 _ rfl x1
 have b4:=cb 4 _ rfl x1
 have b5:=cb 5 _ rfl x1
 have b6:=cb 6 _ rfl x1
 have b7:=cb 7 _ rfl x1
 have b8:=cb 8 _ rfl x1
 have fa1:=fa x1
 have fb1:=fb x1
 have hsz:=size_plus X x1
 obtain⟨W1,hW1⟩:∃ W,plus X x1=W:=⟨_,rfl⟩
 have hup:=Lib.hid (show ∃ z,W1=plus w z by obtain⟨z,h⟩:=hzX;rw [← hW1,h,plus_plus];exact⟨_,rfl⟩)
 rw [hW1] at a0 a1 a2 a3 a4 a5 a6 a7 a8 b0 b1 b2 b3 b4 b5 b6 b7 b8 fa1 fb1 hL hsz ⊢
 have hL':=Lib.hid hL
 have hXs':=Lib.hid hXs
 have hsz':=Lib.hid hsz
 clear hW1 ca cb fa fb hL hXB hzX hXs hsz
 go_wp2
 have hgot:=fun j v hj=>from_cell (g:=w.heap.size+1) [.int .u8 op,.int .i64 lw,.int .u64 lh,.int .u64 ll,.string hd,.string nm,.int .i64 eh,.int .i64 el,.slice q l'.length d] (W1.setCell ⟨w.heap.size,8,none⟩ (.slice q l'.length d)) 0 j v hj
  (fun i hi=>by
   match i,hi with
   | 0,_=>exact⟨_,(World.cell?_setCell_other _ _ _ _ (by intro e;injection e with e1 _;omega)).trans b0⟩
   | 1,_=>exact⟨_,(World.cell?_setCell_other _ _ _ _ (by intro e;injection e with e1 _;omega)).trans b1⟩
   | 2,_=>exact⟨_,(World.cell?_setCell_other _ _ _ _ (by intro e;injection e with e1 _;omega)).trans b2⟩
   | 3,_=>exact⟨_,(World.cell?_setCell_other _ _ _ _ (by intro e;injection e with e1 _;omega)).trans b3⟩
   | 4,_=>exact⟨_,(World.cell?_setCell_other _ _ _ _ (by intro e;injection e with e1 _;omega)).trans b4⟩
   | 5,_=>exact⟨_,(World.cell?_setCell_other _ _ _ _ (by intro e;injection e with e1 _;omega)).trans b5⟩
   | 6,_=>exact⟨_,(World.cell?_setCell_other _ _ _ _ (by intro e;injection e with e1 _;omega)).trans b6⟩
   | 7,_=>exact⟨_,(World.cell?_setCell_other _ _ _ _ (by intro e;injection e with e1 _;omega)).trans b7⟩
   | 8,_=>exact⟨_,(World.cell?_setCell_other _ _ _ _ (by intro e;injection e with e1 _;omega)).trans b8⟩
   | n+9,hi=>exact absurd hi (by simp))
 obtain⟨U,hU⟩:∃ U,(((((((((W1.setCell ⟨w.heap.size,8,none⟩ (.slice q l'.length d)).setCell ⟨w.heap.size+1,0,none⟩ (.int .u8 op)).setCell ⟨w.heap.size+1,1,none⟩ (.int .i64 lw)).setCell ⟨w.heap.size+1,2,none⟩ (.int .u64 lh)).setCell ⟨w.heap.size+1,3,none⟩ (.int .u64 ll)).setCell ⟨w.heap.size+1,4,none⟩ (.string hd)).setCell ⟨w.heap.size+1,5,none⟩ (.string nm)).setCell ⟨w.heap.size+1,6,none⟩ (.int .i64 eh)).setCell ⟨w.heap.size+1,7,none⟩ (.int .i64 el)).setCell ⟨w.heap.size+1,8,none⟩ (.slice q l'.length d)=U:=⟨_,rfl⟩
 have hV:cellsFrom (w.heap.size+1) (W1.setCell ⟨w.heap.size,8,none⟩ (.slice q l'.length d)) 0 [.int .u8 op,.int .i64 lw,.int .u64 lh,.int .u64 ll,.string hd,.string nm,.int .i64 eh,.int .i64 el,.slice q l'.length d]=U:=hU
 rw [hU]
 rw [hV] at hgot
 have g0:=hgot 0 _ rfl
 simp only [Nat.zero_add] at g0
 have g1:=hgot 1 _ rfl
 simp only [Nat.zero_add] at g1
 have g2:=hgot 2 _ rfl
 simp only [Nat.zero_add] at g2
 have g3:=hgot 3 _ rfl
 simp only [Nat.zero_add] at g3
 have g4:=hgot 4 _ rfl
 simp only [Nat.zero_add] at g4
 have g5:=hgot 5 _ rfl
 simp only [Nat.zero_add] at g5
 have g6:=hgot 6 _ rfl
 simp only [Nat.zero_add] at g6
 have g7:=hgot 7 _ rfl
 simp only [Nat.zero_add] at g7
 have g8:=hgot 8 _ rfl
 simp only [Nat.zero_add] at g8
 have hlow:∀ b,w.heap.size+2≤b→U.heap[b]?=W1.heap[b]?:=fun b hb=>by
  rw [← hV]
  exact (from_heap _ _ _ b (by omega)).trans (Below.heap_setCell _ _ _ b (by simp only;omega))
 have hplus:∃ z,U=plus w z:=by
  obtain⟨z,h⟩:=hup.out
  refine plus_of_below ?_
  rw [← hV]
  refine Below.trans ?_ (from_below (Nat.le_succ _) _ _ _)
  rw [h]
  exact (below_plus w z).setCell (p:=⟨w.heap.size,8,none⟩) (Nat.le_refl _) _
 clear hU hV hgot a0 a1 a2 a3 a4 a5 a6 a7 a8 b0 b1 b2 b3 b4 b5 b6 b7 b8
 obtain⟨hrow,hown,hkid,hlike,hlen,hcap⟩:=hL'.out
 have hX2:=hXs'.out
 have hkeep:∀ y ∈ l',y.In U∧ExO (w.heap.size+2) U y:=fun y hy=>exo_keep (fun b cur fz hb hh=>(hlow b hb).trans hh) y (hkid y hy).1 (ExO.mono (by omega) (hkid y hy).2)
 have hown2:0 < l'.length→∃ a cur fz,q=some a∧w.heap.size+2≤a.block∧U.heap[a.block]?=some (.cells cur 45 fz):=fun h=>by
  obtain⟨a,cur,fz,h1,h2,h3⟩:=hown h
  exact⟨a,cur,fz,h1,by omega,(hlow _ (by omega)).trans h3⟩
 have hrow2:RowAt U 9 Ex.cells q l':=fun i y hy=>by
  obtain⟨a,ha,hc⟩:=hrow i y hy
  obtain⟨a2,cur,fz,h1,h2,h3⟩:=hown2 (by have:=(List.getElem?_eq_some_iff.1 hy).1;omega)
  rw [h1] at ha
  obtain rfl:=Option.some.inj ha
  exact⟨a2,h1,fun j v hj=>(World.cell?_of_block (show U.heap[((a2.add (i*9)).add j).block]?=W1.heap[((a2.add (i*9)).add j).block]? from by rw [add_block,add_block];exact hlow _ h2)).trans (hc j v hj)⟩
 obtain⟨w1,w2,w3,w4,w5,w6⟩:=hwf.out
 exact bodyPost_ret (v:=.agg #[.int .u8 op,.int .i64 lw,.int .u64 lh,.int .u64 ll,.string hd,.string nm,.int .i64 eh,.int .i64 el,.slice q l'.length d]) (by simp [results,Tryz.results97,go_sem,g0,g1,g2,g3,g4,g5,g6,g7,g8]) rfl ⟨Ex.mk op ⟨lw,lh,ll⟩ hd nm eh el q d l',rfl,hplus,.mk _ w1 w2 w3 w4 w5 w6 hlen hcap hrow2 (fun y hy=>(hkeep y hy).1),.mk _ (fun h=>by obtain⟨a,cur,fz,h1,h2,h3⟩:=hown2 h;exact⟨a,cur,fz,h1,by omega,h3⟩) (fun y hy=>(hkeep y hy).2.mono (by omega)),hb'.out q d l' hlike⟩
theorem copied_all:∀ e:Ex,CopyE e:=fun e=>Ex.ind (Q:=CopyE) (fun e ih=>copied_expr e ih) e
end Go.Proofs.YtobhijbncchpiaaGreat

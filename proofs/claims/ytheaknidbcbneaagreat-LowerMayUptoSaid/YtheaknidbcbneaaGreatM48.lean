/-
  WHAT IS PROVED HERE: a part of the proof (made narrower and merged by program; the parts: Lrq Lrs).
-/
import Derived.Test.YtheaknidbcbneaaGreatM41
import Derived.Test.YtheaknidbcbneaaGreatM36
import Derived.Test.YtheaknidbcbneaaGreatM44
set_option maxRecDepth 100000
set_option maxHeartbeats 8000000
set_option linter.all false
namespace Go.Proofs.YtheaknidbcbneaaGreat
open Go.RowKit Go.Proofs.Tryz
open Below renaming refl→Zc
open Lib renaming hid→Zg
open List renaming drop_of_length_le→Zh,getElem?_eq_getElem→Zi,mem_cons_self→Zk,mem_of_getElem?→Zl
open Nat renaming le_refl→Zp,zero_le→Zq
open Go.Proofs.Tryz renaming prog→Zr
open Value renaming int→Zt
open Go.RowKit
def TE(u v:Value):Prop:=∀j,u.ownBlock=some j→v.ownBlock≠some j
theorem TE.symm{u v:Value}(h:TE u v):TE v u:=fun j h1 h2=>h j h2 h1
structure RR (W wr:World) (rs:List (Value × List Int)) (bs:List (Nat × Obj)):Prop where
 below:Below W.heap.size W wr
 own:∀r∈rs,XJ wr W.heap.size r.1 r.2
 ap:rs.Pairwise fun r s=>TE r.1 s.1
 box:∀b∈bs,wr.heap[b.1]?=some b.2∧∀cur,b.2≠.cells cur 3 (0,0)
theorem RF{wr W:World}{bs:List (Nat × Obj)}(h:∀b∈bs,wr.heap[b.1]?=some b.2∧∀cur,b.2≠.cells cur 3 (0,0))(hB:Below wr.heap.size wr W):∀b∈bs,W.heap[b.1]?=some b.2∧∀cur,b.2≠.cells cur 3 (0,0):=fun b hb=>by
 obtain⟨h1,h2⟩:=h b hb;exact⟨(hB.block _ (Array.getElem?_eq_some_iff.1 h1).1).trans h1,h2⟩
theorem RR.start(W:World):RR W W [] []:=⟨Zc _ W,fun r hr=>(by cases hr),List.Pairwise.nil,fun b hb=>(by cases hb)⟩
theorem RR.alloc{W wr:World}{rs:List (Value × List Int)}{bs:List (Nat × Obj)}(h:RR W wr rs bs)(o:Obj):RR W (wr.alloc o) rs bs:=⟨h.below.alloc h.below.size o,fun r hr=>(h.own r hr).alloc o,h.ap,RF h.box ((Zc _ wr).alloc (Zp _) o)⟩
theorem RR.drew{W wr:World}{rs:List (Value × List Int)}{bs:List (Nat × Obj)}(h:RR W wr rs bs):RR W wr.drew rs bs:=⟨Wy h.below,fun r hr=>(h.own r hr).drew,h.ap,h.box⟩
theorem RR.plus{W wr:World}{rs:List (Value × List Int)}{bs:List (Nat × Obj)}(h:RR W wr rs bs)(y:ZA):RR W (Go.Proofs.YtheaknidbcbneaaGreat.plus wr y) rs bs:=⟨h.below.trans ((Z9 wr y).mono h.below.size),fun r hr=>Rh (h.own r hr) (Z9 wr y),h.ap,RF h.box (Z9 wr y)⟩
theorem RR.perm{W wr:World}{rs rs':List (Value × List Int)}{bs:List (Nat × Obj)}(h:RR W wr rs bs)(p:rs.Perm rs'):RR W wr rs' bs:=⟨h.below,fun r hr=>h.own r (p.mem_iff.2 hr),(p.pairwise_iff (fun hxy=>TE.symm hxy)).1 h.ap,h.box⟩
theorem RR.tail{W wr:World}{r:Value × List Int}{rs:List (Value × List Int)}{bs:List (Nat × Obj)}(h:RR W wr (r :: rs) bs):RR W wr rs bs:=⟨h.below,fun s hs=>h.own s (List.mem_cons_of_mem _ hs),(List.pairwise_cons.1 h.ap).2,h.box⟩
theorem RR.unbox{W wr:World}{rs:List (Value × List Int)}{bs:List (Nat × Obj)}(h:RR W wr rs bs):RR W wr rs []:=⟨h.below,h.own,h.ap,fun b hb=>by cases hb⟩
theorem RR.newbox{W wr:World}{rs:List (Value × List Int)}{bs:List (Nat × Obj)}(h:RR W wr rs bs)(o:Obj)(ho:∀cur,o≠.cells cur 3 (0,0)):RR W (wr.alloc o) rs ((wr.heap.size,o) :: bs):=by
 have h1:=h.alloc o;refine⟨h1.below,h1.own,h1.ap,fun b hb=>?_⟩;rcases List.mem_cons.1 hb with rfl|hb
 ·exact⟨heap_alloc_new wr _,ho⟩
 ·exact h1.box b hb
theorem RR.nil{W wr:World}{rs:List (Value × List Int)}{bs:List (Nat × Obj)}(h:RR W wr rs bs):RR W wr ((.slice none 0 0,[]) :: rs) bs :=
 ⟨h.below,fun r hr=>by
  rcases List.mem_cons.1 hr with rfl|hr
  ·exact World.ownsRow_nil _ _ _ _
  ·exact h.own r hr,List.pairwise_cons.2 ⟨fun s _ j hj=>(nomatch (show (none:Option Nat)=some j from hj)),h.ap⟩,h.box⟩
theorem RR.lit{W wr:World}{rs:List (Value × List Int)}{bs:List (Nat × Obj)}(h:RR W wr rs bs)(x):RR W (wr.alloc (.cells #[.int .i64 x] 3)) ((.slice (some ⟨wr.heap.size,0,none⟩) 1 1,[x]) :: rs) bs :=
 ⟨h.below.alloc h.below.size _,fun r hr=>by
  rcases List.mem_cons.1 hr with rfl|hr
  ·exact World.ownsRow_lit wr #[.int .i64 x] 1 h.below.size (by simp[maxLen]) rfl
  ·exact (h.own r hr).alloc _,List.pairwise_cons.2 ⟨fun s hs j hj hk=>by
   obtain rfl:=Option.some.inj (show some wr.heap.size=some j from hj);have:=((h.own s hs).lt _ hk).2;omega,h.ap⟩,RF h.box ((Zc _ wr).alloc (Zp _) _)⟩
theorem RR.form{W wr:World}{v:Value}{l:List Int}{rs:List (Value × List Int)}{bs:List (Nat × Obj)}(h:RR W wr ((v,l) :: rs) bs):∃p c,v=.slice p l.length c∧l.length≤c:=by
 obtain⟨p,c,h1,h2,-,-⟩:=Sc (h.own (v,l) Zk);exact⟨p,c,h1,h2⟩
theorem RR.cell{W wr:World}{p:Option Addr}{n c:Nat}{l:List Int}{rs:List (Value × List Int)}{bs:List (Nat × Obj)}(h:RR W wr ((.slice p n c,l) :: rs) bs)(hn:l.length=n){k:Nat}{x:Int}(hx:l[k]?=some x):∃g,p=some ⟨g,0,none⟩∧g<wr.heap.size∧wr.cell? ⟨g,k,none⟩=some (.int .i64 x):=by
 have h1:=h.own _ Zk;unfold XJ at h1;simp only at h1;rw[hn]at h1;obtain⟨g,h2,-,h3,h4⟩:=VY h1 hx;exact⟨g,h2,h3,h4⟩
theorem RR.row{W wr:World}{p:Option Addr}{n c:Nat}{l:List Int}{rs:List (Value × List Int)}{bs:List (Nat × Obj)}(h:RR W wr ((.slice p n c,l) :: rs) bs)(hn:l.length=n):Z2 wr 1 Xt p l:=by
 have h1:=h.own _ Zk;unfold XJ at h1;simp only at h1;rw[hn]at h1;exact Oa h1
theorem RR.at_box{W wr:World}{rs:List (Value × List Int)}{bs:List (Nat × Obj)}{b:Nat}{cs:Array Value}{t:TypeId}(h:RR W wr rs ((b,.cells cs t) :: bs)){j:Nat}{u:Value}(hj:cs[j]?=some u):wr.cell? ⟨b,j,none⟩=some u :=
 Pw (h.box _ Zk).1 hj
theorem Rp{W0 W:World}{rs:List (Value × List Int)}{bs:List (Nat × Obj)}(v:Value)(n:Nat){l:List Int}(hn:l.length=n)(hR:RR W0 W ((v,l) :: rs) bs)(hb:n≤1048576){ops:Array Oper}{rest:List Oper}{o:Oper}{a:Act}{Q:Exit→Act→World→Prop}(y)(g:Nat)(VJ:W.cell? ⟨g,0,none⟩=some (.int .i64 y))(VL:o.guard=none)(s x:Operand)(ho:o.op=.call { callee:=.builtin .append,args:=#[s,x],argTypes:=#[23,23] })(hs:a.eval s=v)(hx:a.eval x=.slice (some ⟨g,0,none⟩) 1 1)(k:∀v' w',RR W0 w' ((v',l++[y]) :: rs) bs→wpList Zr ops Q rest (a.put o.dst v') w'):wpList Zr ops Q (o :: rest) a W:=by
 obtain⟨i0,hi0,Ws,WH,hi3⟩:=info_parts Rc;have h1:=hR.own _ Zk;unfold XJ at h1;simp only at h1;rw[hn]at h1;refine wpList_append_lies W VL s x 23 ho W0.heap.size 3 i0 (.int .i64 0) 1 8 Tryz.underlying23 hi0 Ws WH hi3 rfl (by decide) v n _ hs h1 ⟨g,0,none⟩ 1 1 (Xt y) hx rfl (fun j u hu=>by
   rw[Addr.add_lit,Nat.zero_add];match j,hu with
   | 0,hu=>obtain rfl:=Option.some.inj hu;exact VJ) (by intro u hu;simp only[List.mem_cons,List.not_mem_nil,or_false]at hu;subst hu;rfl)
  (by decide) (by simp only[maxLen];omega) (by omega) hR.below.size _ rfl fun g' cap w' h3 h4 h5 h6=>k _ w' ?_
 have hother:∀r∈rs,TE v r.1:=(List.pairwise_cons.1 hR.ap).1;refine⟨hR.below.grown h4 hR.below.size (fun j e=>(h1.lt j e).1),fun r hr=>?_,?_,fun b hb=>?_⟩
 ·rcases List.mem_cons.1 hr with rfl|hr
  ·show w'.ownsRow _ _ 1 _ (l++[y]).length (((l++[y]).map Xt).flatten)
   rw[List.length_append,List.map_append,List.flatten_append,hn];simpa using h3
  ·refine World.ownsRow.kept (hR.own r (List.mem_cons_of_mem _ hr)) h4 ?_
   rcases hq:r.1.ownBlock with _|j
   ·exact .inl rfl
   ·exact .inr fun e=>hother r hr j e.symm hq
 ·refine List.pairwise_cons.2 ⟨fun r hr j hj hk=>?_,(List.pairwise_cons.1 hR.ap).2⟩
  obtain rfl:=Option.some.inj (show some g'=some j from hj);rcases h5 with h5|h5
  ·exact hother r hr _ h5 hk
  ·have:=((hR.own r (List.mem_cons_of_mem _ hr)).lt _ hk).2
   omega
 ·obtain⟨b1,b2⟩:=hR.box b hb
  refine⟨(h4.block _ (Array.getElem?_eq_some_iff.1 b1).1 fun e=>?_).trans b1,b2⟩;rcases h1.2 with⟨rfl,_⟩|⟨g9,cap9,cur,rfl,_,hg9,_⟩
  ·cases e
  ·obtain e9:b.1=g9:=Option.some.inj (show some b.1=some g9 from e)
   rw[e9,hg9]at b1;exact b2 cur (Option.some.inj b1).symm
abbrev Yy(l:List Nat):List Int:=l.map fun (n:Nat)=>(n:Int)
abbrev W7(l:List Int):List Nat:=l.filterMap fun t=>if 0≤t then some t.toNat else none
theorem GQ{g:List (List Nat)}{i:Nat}{t:Int}{l:List Int}{s:List Nat × List Nat}{K:List Nat × List Nat→Option (List Nat × List Nat)}(h:t<0):((Wp i (W7 (t :: l)) s).bind K)=((Wp i (W7 l) s).bind K):=by
 rw[show W7 (t :: l)=W7 l from List.filterMap_cons_none (by rw[if_neg (by omega)])]
theorem OJ{i t:Nat}{l:List Int}{s:List Nat × List Nat}{K:List Nat × List Nat→Option (List Nat × List Nat)}:((Wp i (W7 ((t:Int) :: l)) s).bind K)=if t=i then none else if t∈s.1 then ((Wp i (W7 l) s).bind K) else ((Wp i (W7 l) (s.1++[t],s.2++[t])).bind K):=by
 rw[show W7 ((t:Int) :: l)=t :: W7 l from List.filterMap_cons_some (by rw[if_pos (by omega),Int.toNat_natCast])];have e:Wp i (t :: W7 l) s=if t=i then none else if t∈s.1 then Wp i (W7 l) s else Wp i (W7 l) (s.1++[t],s.2++[t]):=rfl;rw[e];split
 ·rfl
 ·split <;> rfl
theorem Lv(l:List Nat)(t:Nat):((Yy l).any fun x=>x==(t:Int))=decide (t∈l):=by
 rw[Bool.eq_iff_iff,decide_eq_true_eq,List.any_eq_true];constructor
 ·rintro⟨x,hx,h⟩
  obtain⟨n,hn,rfl⟩:=List.mem_map.1 hx;rw[beq_iff_eq]at h;obtain rfl:n=t:=by omega
  exact hn
 ·intro h
  exact⟨(t:Int),List.mem_map_of_mem h,by simp⟩
def T9:Value→Nat
 | .slice _ n _=>n
 | _=>0
def Nz(V:World)(g:List (List Nat))(i:Nat)(e:Ending)(w':World):Prop:=∃b:Bool,e=.returned (.bool b)∧(b=true↔Xy g i i)∧∃x,w'=plus V x
theorem HK(q0p q0n q0c q1p q1n q1c)(q2p:Option Addr)(q2n q2c:Nat)(q3p q3n q3c q4p q4n q4c q5p q5n q5c q6p q6n q6c q7p q7n q7c q8p q8n q8c q9p q9n q9c q10p q10n q10c q11p q11n q11c)(i:Nat)(steps:List Sp)(w:World)(hS:Z2 w 4 Sp.cells q2p steps)(hSn:steps.length=q2n)(hk:∀s∈steps,s.In w)(hq:q2n≤65536)(hbr:∀s∈steps,s.branches.l.length≤65536)(Xg:Uz (gF steps))(hk0:∀s∈steps,s.keys.l.length=0→s.branches.l=[])(hi:i<q2n) :
  Calls Zr 27 #[.agg #[.slice q0p q0n q0c,.slice q1p q1n q1c,.slice q2p q2n q2c,.slice q3p q3n q3c,.slice q4p q4n q4c,.slice q5p q5n q5c,.slice q6p q6n q6c,.slice q7p q7n q7c,.slice q8p q8n q8c,.slice q9p q9n q9c,.slice q10p q10n q10c,.slice q11p q11n q11c],.int .i64 (i:Int)] w (Nz w (gF steps) i):=by
 obtain⟨W,hW,ZY,hz,ca,fa⟩:=Vx w #[.slice q0p q0n q0c,.slice q1p q1n q1c,.slice q2p q2n q2c,.slice q3p q3n q3c,.slice q4p q4n q4c,.slice q5p q5n q5c,.slice q6p q6n q6c,.slice q7p q7n q7c,.slice q8p q8n q8c,.slice q9p q9n q9c,.slice q10p q10n q10c,.slice q11p q11n q11c] 33;have c2:=ca 2 _ rfl ⟨#[],W.drawn⟩;rw[ZK]at c2;have WE:Hid (∀(wr:World) (k:Nat) (s:Sp),Below W.heap.size W wr→steps[k]?=some s→∃a,q2p=some a∧ZG wr (a.add (k*4)) s.cells):=Zg fun wr k s hB hx=>by
  obtain⟨a,hp,hc⟩:=hS k s hx;exact⟨a,hp,V5 (hB:=ZY.trans (hB.mono ZY.size)) hc⟩
 have hB':Hid (∀(wr:World) (s:Sp),s∈steps→Below W.heap.size W wr→∀(k:Nat) (b:Br),s.branches.l[k]?=some b→∃a,s.branches.p=some a∧ZG wr (a.add (k*2)) b.cells):=Zg fun wr s hs hB k b hb=>by
  obtain⟨a,hp,hc⟩:=(hk s hs).branches.row k b hb;exact⟨a,hp,V5 (hB:=ZY.trans (hB.mono ZY.size)) hc⟩
 have Xc:w.heap.size<W.heap.size:=by omega
 have hR0:Hid (RR W (W.alloc (.cells #[.int .i64 (i:Int)] 3)) [(.slice (some ⟨W.heap.size,0,none⟩) 1 1,Yy [i]),(.slice none 0 0,Yy [])] []):=Zg (RR.lit (RR.nil (RR.start W)) (i:Int));have hb0:Hid (Uy (gF steps) i [i] []):=Zg (N1 _ i);have Y3:Hid (∀wr,Below W.heap.size W wr→∃x,wr=plus w x):=Zg fun wr hB=>ZS (ZY.trans (hB.mono ZY.size));have hgl:Hid ((gF steps).length=q2n):=Zg (by unfold gF;rw[List.length_map];exact hSn);have T0:=Zg hSn;have Th:=Zg Xg;have hq':=Zg hq;have hbr':=Zg hbr;have hk0':=Zg hk0;have hi':=Zg hi;clear hS hSn hk hq hbr Xg hk0 hi ZY hz ca fa;go_enter func27,ntmps27;go_upto_region 1 with (fail)
 rw[←hW];clear hW;go_wp2;go_loopw [5,6,7,8,9,10,11,12] (fun vs vn _ _ _ _ _ _ wr=>∃ls ln:List Nat,Hid (RR W wr [(vn,Yy ln),(vs,Yy ls)] [])∧Hid (Uy (gF steps) i ln ls)∧Hid (ln.length≤ls.length+1)) (fun vs vn _ _ _ _ _ _ _=>2*(q2n-T9 vs)+(if T9 vn=0 then 0 else 1))
 case atStart=>exact⟨[],[i],hR0,hb0,Zg (by simp)⟩
 case round =>
  clear hR0 hb0;obtain⟨ls,ln,hR,hB,hln⟩:=hrel;obtain⟨np,nc,hnv,hnc⟩:=hR.out.form;obtain⟨sp,sc,hsv,W4⟩:=hR.out.tail.form;rw[List.length_map]at hnv hnc hsv W4;obtain⟨nn,hnn⟩:=Zv ln.length;obtain⟨sn,hsn⟩:=Zv ls.length;rw[hnn]at hnv hnc;rw[hsn]at hsv W4;subst hnv hsv;have S9:=QT Th.out hB.out;rw[hgl.out,hsn]at S9;have hln2:=hln.out;rw[hsn,hnn]at hln2;have hnn':=Zg hnn;have hsn':=Zg hsn;replace S9:=Zg S9;replace hln2:=Zg hln2;by_cases h0:nn=0
  ·subst h0
   have hno:Hid (¬Xy (gF steps) i i):=Zg (by
    obtain rfl:=List.length_eq_zero_iff.1 hnn;exact NY hB.out)
   have WZ:=Zg (Y3.out _ hR.out.below);clear hR hB hln hnc W4 hnn hsn;go_wp2_with fail;go_ret;exact⟨false,rfl,⟨fun h=>(by cases h),fun h=>absurd h hno.out⟩,WZ.out⟩
  ·have p1:(0:Int)<(nn:Int):=by omega
   have p1b:decide ((0:Int)<(nn:Int))=true:=decide_eq_true p1;have p1c:decide (0<nn)=true:=decide_eq_true (by omega);obtain⟨RES,hRES⟩:=Zv (WR (gF steps) i ln (ls,[]));have hRESk:=Zg hRES;have hRES0:Hid (WR (gF steps) i (ln.drop 0) (ls,[])=RES):=Zg hRES;have Yj:Hid (RR W wr [(.slice sp sn sc,Yy ls),(.slice none 0 0,Yy []),(.slice np nn nc,Yy ln)] []):=Zg ((hR.out.nil).perm (by
    refine (List.Perm.swap _ _ _).trans ?_;refine ((List.Perm.cons _ (List.Perm.swap _ _ _)).trans ?_);refine ((List.Perm.swap _ _ _).trans ?_);exact List.Perm.cons _ (List.Perm.swap _ _ _)))
   have hN0:Hid (ls.Nodup∧(∀x∈ls,x<q2n)∧([]:List Nat).length≤ls.length):=Zg ⟨hB.out.dup,fun x hx=>by rw[←hgl.out];exact Qy Th.out (hB.out.hseen x hx),Zq _⟩;clear hRES hnn hsn hR hln;go_wp2_with fail;go_loopw [5,7,8,9,10,11,12] (fun vs vx iv _ _ _ _ wr=>∃(k:Nat) (l1 l2:List Nat),k≤nn∧iv=.int .i64 (k:Int)∧Hid (RR W wr [(vs,Yy l1),(vx,Yy l2),(.slice np nn nc,Yy ln)] [])∧Hid (WR (gF steps) i (ln.drop k) (l1,l2)=RES)∧Hid (l1.Nodup∧(∀x∈l1,x<q2n)∧l2.length≤l1.length)) (fun _ _ iv _ _ _ _ _=>nn-(intOf iv).toNat)
   case atStart=>exact⟨0,ls,[],Zq _,rfl,Yj,hRES0,hN0⟩
   case round =>
    clear Yj hRES0 hN0;obtain⟨k,l1,l2,hk,rfl,hR,hRS,hN⟩:=hrel;by_cases Zz:k<nn
    ·obtain⟨v,hv⟩:=Z6 ln k (by rw[hnn'.out];exact Zz)
     have hvN:v<q2n:=by
      rcases hB.out.hnow v (Zl hv) with rfl|hw
      ·exact hi'.out
      ·rw[←hgl.out];exact Qy Th.out hw
     obtain⟨s,hs⟩:=Z6 steps v (by rw[T0.out];exact hvN);have hsm:=Zg (Zl hs);have hgv:=Zg (Po hs);have Xa:=hbr'.out s hsm.out;have hkz:=hk0'.out s hsm.out;have hbrr:=hB'.out;obtain⟨ga,hga,hglt,hgc⟩:=(hR.out.tail.tail).cell (by rw[List.length_map];exact hnn'.out) (k:=k) (x:=(v:Int)) (by rw[List.getElem?_map,hv];rfl);obtain rfl:np=some ⟨ga,0,none⟩:=hga;have hRS1:=hRS.out;rw[show ln.drop k=v :: ln.drop (k+1) by rw[List.drop_eq_getElem_cons (by rw[hnn'.out];exact Zz)];congr 1;rw[Zi (by rw[hnn'.out];exact Zz)]at hv;exact Option.some.inj hv,WR,hgv.out]at hRS1;obtain⟨⟨tp,tc,tl⟩,⟨kp,kc,kl⟩,⟨bp,bc,bl⟩,dest⟩:=s;obtain⟨kn,hkn⟩:=Zv kl.length;obtain⟨bn,hbl⟩:=Zv bl.length;obtain⟨tn,htn⟩:=Zv tl.length;obtain⟨sa,rfl,VK⟩:=WE.out wr v _ hR.out.below hs;simp only[hkn,hbl]at Xa hkz;have u0:=VK.c0 _ rfl;have u1:=VK.cs 0 _ rfl;have u2:=VK.cs 1 _ rfl;have u3:=VK.cs 2 _ rfl;simp only[Sl.v,hkn,hbl,htn]at u0 u1 u2;have uc:=(hR.out.below.cell (p:=⟨w.heap.size,2,none⟩) Xc).trans c2;have o0:=fun o=>ZL u0 o;have o1:=fun o=>ZL u1 o;have o2:=fun o=>ZL u2 o;have o3:=fun o=>ZL u3 o;have oc:=fun o=>ZL uc o;have og:=fun o=>ZL hgc o;have k0:¬((k:Int)<0):=by omega
     have k1:(k:Int)<(nn:Int):=by omega
     have v0:¬((v:Int)<0):=by omega
     have v1:(v:Int)<(q2n:Int):=by omega
     have a6:=Zg (Yo k nn Zz (by have:=hln2.out;have:=S9.out;have:=hq'.out;omega));have hbl':=Zg hbl;have T5:=Zg hkn;have hbn':=Zg Xa;have hkz':=Zg hkz;replace hRS1:=Zg hRS1;clear hv hs hRS VK hkn htn hbl Xa hkz hvN hbrr;go_upto_region 8 with (fail)
     go_cut [9] (fun p9 wx=>p9=.pointer (some ⟨wr.heap.size,0,none⟩)∧wx=(wr.alloc (.cells #[.slice tp tn tc,.slice kp kn kc,.slice bp bn bc,.int .i64 dest] 49)).drew)
     case first =>
      go_region;all_goals
       go_wp2_with fail;go_meet;exact⟨rfl,rfl⟩
     case rest =>
     obtain⟨rfl,rfl⟩:=hcut;have hR9:Hid (RR W (wr.alloc (.cells #[.slice tp tn tc,.slice kp kn kc,.slice bp bn bc,.int .i64 dest] 49)).drew [(.slice none 0 0,[]),(u5,Yy l1),(u7,Yy l2),(.slice (some ⟨ga,0,none⟩) nn nc,Yy ln)] [(wr.heap.size,.cells #[.slice tp tn tc,.slice kp kn kc,.slice bp bn bc,.int .i64 dest] 49)]):=Zg ((hR.out.newbox _ (fun cur h=>by cases h)).drew.nil);generalize (wr.alloc (.cells #[.slice tp tn tc,.slice kp kn kc,.slice bp bn bc,.int .i64 dest] 49)).drew=V9 at hR9 ⊢;clear hR u0 u1 u2 u3 hgc uc o0 o1 o2 o3 oc og;obtain⟨SB,hSB⟩:=Zv wr.heap.size;rw[hSB]at hR9 ⊢;clear hSB;have w0:V9.cell? ⟨SB,0,none⟩=some (.slice tp tn tc):=hR9.out.at_box rfl;have w1:V9.cell? ⟨SB,1,none⟩=some (.slice kp kn kc):=hR9.out.at_box rfl;have w2:V9.cell? ⟨SB,2,none⟩=some (.slice bp bn bc):=hR9.out.at_box rfl;have w3:V9.cell? ⟨SB,3,none⟩=some (.int .i64 dest):=hR9.out.at_box rfl;go_upto_if 35 with (fail)
     go_cut [10] (fun vt wx=>∃t0:List Int,Hid (RR W wx [(vt,t0),(u5,Yy l1),(u7,Yy l2),(.slice (some ⟨ga,0,none⟩) nn nc,Yy ln)] [(SB,.cells #[.slice tp tn tc,.slice kp kn kc,.slice bp bn bc,.int .i64 dest] 49)])∧Hid (t0=if kn=0 then [dest] else []))
     case first =>
      by_cases W5:kn=0
      ·have z1:((kn:Int)==0)=true:=by rw[W5];rfl
       have z2:(kn==0)=true:=by rw[W5];rfl
       have hd0:=Zg (show []++[dest]=if kn=0 then [dest] else ([]:List Int) by rw[if_pos W5];rfl);clear W5;go_wp2_with (at_builtin;refine Rp (.slice none 0 0) 0 rfl (hR9.out.alloc _) (by omega) dest V9.heap.size ((Z4 V9 _ _ _ 0 rfl).trans rfl) rfl _ _ rfl rfl rfl ?_);intro v' w1 hR10;replace hR10:=Zg hR10;go_wp2_with fail;go_meet;exact⟨_,hR10,hd0⟩
      ·have z1:((kn:Int)==0)=false:=by rw[beq_eq_false_iff_ne];omega
       have z2:(kn==0)=false:=by rw[beq_eq_false_iff_ne];exact W5
       have hd0:=Zg (show []=if kn=0 then [dest] else ([]:List Int) by rw[if_neg W5]);clear W5;go_wp2_with fail;go_meet;exact⟨_,hR9,hd0⟩
     case rest =>
     obtain⟨t0,hRt,ht0⟩:=hcut;clear hR9 w0 w1 w2 w3;have ht1:Hid (t0.length≤1):=Zg (by rw[ht0.out];split <;> simp);have hR11:Hid (RR W wc [(u10,t0++(bl.take 0).map (·.dest)),(u5,Yy l1),(u7,Yy l2),(.slice (some ⟨ga,0,none⟩) nn nc,Yy ln)] [(SB,.cells #[.slice tp tn tc,.slice kp kn kc,.slice bp bn bc,.int .i64 dest] 49)]):=Zg (by rw[List.take_zero,List.map_nil,List.append_nil];exact hRt.out);clear hRt;go_wp2_with fail;go_loopw [10,11] (fun vt iv wx=>∃m:Nat,m≤bn∧iv=.int .i64 (m:Int)∧Hid (RR W wx [(vt,t0++(bl.take m).map (·.dest)),(u5,Yy l1),(u7,Yy l2),(.slice (some ⟨ga,0,none⟩) nn nc,Yy ln)] [(SB,.cells #[.slice tp tn tc,.slice kp kn kc,.slice bp bn bc,.int .i64 dest] 49)])) (fun _ iv _=>bn-(intOf iv).toNat)
     case atStart=>exact⟨0,Zq _,rfl,hR11⟩
     case round =>
      clear hR11;obtain⟨m,hm,rfl,Uk⟩:=hrel;have w2:wr.cell? ⟨SB,2,none⟩=some (.slice bp bn bc):=Uk.out.at_box rfl;by_cases Wm:m<bn
      ·obtain⟨⟨⟨pp,pc,pl⟩,d⟩,hb⟩:∃b,bl[m]?=some b:=⟨bl[m]'(by rw[hbl'.out];exact Wm),Zi _⟩
       obtain⟨ba,hba,hbc⟩:=hB'.out wr _ hsm.out Uk.out.below m _ hb;obtain rfl:bp=some ba:=hba;have wd:=hbc.cs 0 _ rfl;simp only at wd;have YA:Hid ((t0++(bl.take m).map (·.dest)).length=t0.length+m):=Zg (by rw[List.length_append,List.length_map,List.length_take];have:=hbl'.out;omega);have htk:Hid (t0++(bl.take (m+1)).map (·.dest)=t0++(bl.take m).map (·.dest)++[d]):=Zg (by rw[List.take_add_one,hb,List.map_append,List.append_assoc];rfl);have m0:¬((m:Int)<0):=by omega
       have m1:(m:Int)<(bn:Int):=by omega
       have b6:=Zg (Yo m bn Wm (by have:=hbn'.out;omega));have hbd:Hid (t0.length+m≤1048576):=Zg (by have:=hbn'.out;have:=ht1.out;omega);obtain⟨L0,hL0⟩:=Zv (t0++(bl.take m).map (·.dest));rw[hL0]at Uk YA htk;clear hb hbc hL0;go_wp2_with (at_builtin;refine Rp u10 (t0.length+m) YA.out (Uk.out.alloc _) hbd.out d wr.heap.size ((Z4 wr _ _ _ 0 rfl).trans rfl) rfl _ _ rfl rfl rfl ?_);intro v' w9 hR13;rw[←htk.out]at hR13;replace hR13:=Zg hR13;clear Uk w2 wd;go_wp2_with fail;go_roundw
       case rel=>exact⟨m+1,Wm,congrArg (Zt .i64) b6.out,hR13⟩
       case measure=>exact YF m bn Wm b6.out
      ·obtain rfl:m=bn:=by omega
       obtain⟨TL,hTL⟩:=Zv (t0++(bl.take m).map (·.dest));rw[hTL]at Uk;have hTF:Hid (TL=Ud ⟨⟨tp,tc,tl⟩,⟨kp,kc,kl⟩,⟨bp,bc,bl⟩,dest⟩):=Zg (by
        rw[←hTL,List.take_of_length_le (by rw[hbl'.out];exact Zp _),ht0.out];show _=if kl.length=0 then [dest] else bl.map (·.dest)
        by_cases W5:kn=0
        ·rw[if_pos W5,if_pos (T5.out.trans W5),hkz'.out W5];rfl
        ·rw[if_neg W5,if_neg (fun c=>W5 (T5.out.symm.trans c))];rfl)
       have hTN:Hid (TL.length≤131072):=Zg (by rw[←hTL,List.length_append,List.length_map,List.length_take];have:=ht1.out;have:=hbn'.out;omega);clear hTL ht0 ht1;obtain⟨p9,c9,h9v,h9c⟩:=Uk.out.form;obtain⟨tN,htN⟩:=Zv TL.length;rw[htN]at h9v h9c hTN;subst h9v;have hR14:Hid (RR W wr [(u5,Yy l1),(u7,Yy l2),(.slice p9 tN c9,TL),(.slice (some ⟨ga,0,none⟩) nn nc,Yy ln)] []):=Zg (Uk.out.unbox.perm (by
        refine (List.Perm.swap _ _ _).trans (List.Perm.cons _ ?_);exact List.Perm.swap _ _ _))
       have hS14:Hid (((Wp i (W7 (TL.drop 0)) (l1,l2)).bind fun s'=>WR (gF steps) i (ln.drop (k+1)) s')=RES):=Zg (by rw[List.drop_zero,hTF.out];exact hRS1.out);have Tk:=Zg htN;clear Uk hRS1 h9c htN;go_wp2_with fail;go_loopw [5,7,12] (fun vs vx iv wx=>∃(m:Nat) (a1 a2:List Nat),m≤tN∧iv=.int .i64 (m:Int)∧Hid (RR W wx [(vs,Yy a1),(vx,Yy a2),(.slice p9 tN c9,TL),(.slice (some ⟨ga,0,none⟩) nn nc,Yy ln)] [])∧Hid (((Wp i (W7 (TL.drop m)) (a1,a2)).bind fun s'=>WR (gF steps) i (ln.drop (k+1)) s')=RES)∧Hid (a1.Nodup∧(∀x∈a1,x<q2n)∧a2.length≤a1.length)) (fun _ _ iv _=>tN-(intOf iv).toNat)
       case atStart=>exact⟨0,l1,l2,Zq _,rfl,hR14,hS14,hN⟩
       case round =>
        clear hR14 hS14 hN;obtain⟨m,a1,a2,hm,rfl,hR,hSC,hN⟩:=hrel;by_cases Wm:m<tN
        ·obtain⟨t,ht⟩:=Z6 TL m (by rw[Tk.out];exact Wm)
         obtain⟨g9,hg9,hglt9,hgc9⟩:=(hR.out.tail.tail).cell Tk.out ht;obtain rfl:p9=some ⟨g9,0,none⟩:=hg9;have WW:=hSC.out;rw[show TL.drop m=t :: TL.drop (m+1) by rw[List.drop_eq_getElem_cons (by rw[Tk.out];exact Wm)];congr 1;rw[Zi (by rw[Tk.out];exact Wm)]at ht;exact Option.some.inj ht]at WW;have m0:¬((m:Int)<0):=by omega
         have m1:(m:Int)<(tN:Int):=by omega
         have b6:=Zg (Yo m tN Wm (by have:=hTN.out;omega));by_cases e1:t=(i:Int)
         ·have e1b:(t==(i:Int))=true:=by rw[e1];exact beq_self_eq_true _
          have hway:Hid (Xy (gF steps) i i):=Zg (by
           rw[e1,OJ,if_pos rfl]at WW;exact NZ hB.out (hRESk.out.trans WW.symm))
          have WZ:=Zg (Y3.out _ hR.out.below);clear WW hSC hR hN ht e1;go_wp2_with fail;go_ret;exact⟨true,rfl,⟨fun _=>hway.out,fun _=>rfl⟩,WZ.out⟩
         ·have e1b:(t==(i:Int))=false:=by simpa using e1
          by_cases e2:0≤t
          ·obtain⟨u,rfl⟩:∃u:Nat,t=(u:Int):=⟨t.toNat,by omega⟩
           have hui:u≠i:=fun h=>e1 (by rw[h]);rw[OJ,if_neg hui]at WW;obtain⟨s9,d9,hsv,-⟩:=hR.out.form;obtain⟨an,Va⟩:=Zv ((Yy a1).length);rw[Va]at hsv;subst hsv;have hanN:an≤65536:=by
            have h1:=SI a1 (List.range q2n) hN.out.1 (fun x hx=>List.mem_range.2 (hN.out.2.1 x hx));rw[List.length_range]at h1;rw[List.length_map]at Va;have:=hq'.out;omega
           have ZQ:=Qh wr s9 d9 (Yy a1) (u:Int) (hR.out.row Va) (by rw[Va];omega);rw[Lv,Va]at ZQ;by_cases X4:u∈a1
           ·rw[decide_eq_true X4]at ZQ
            rw[if_pos X4]at WW;replace ZQ:=Zg ZQ;replace WW:=Zg WW;clear hSC ht e1 e2 X4 hui Va hanN;go_wp2_with fail;refine (YN ZQ.out).mono ?_;rintro e w' ⟨rfl,y8,rfl⟩;have Z0:=Zg (hR.out.plus y8);clear hR ZQ;go_wp2_with fail;go_roundw
            case rel=>exact⟨m+1,a1,a2,Wm,congrArg (Zt .i64) b6.out,Z0,WW,hN⟩
            case measure=>exact YF m tN Wm b6.out
           ·rw[decide_eq_false X4]at ZQ
            rw[if_neg X4]at WW;have hu:u<q2n:=by
             rw[←hgl.out];refine Th.out v u ?_;rw[hgv.out];show u∈W7 _
             rw[←hTF.out];exact List.mem_filterMap.2 ⟨(u:Int),Zl ht,by simp⟩
            have VE:Hid ((a1++[u]).Nodup∧(∀x∈a1++[u],x<q2n)∧(a2++[u]).length≤(a1++[u]).length):=Zg ⟨by
              rw[List.nodup_append];exact⟨hN.out.1,by simp,fun a ha b hb=>by simp at hb;subst hb;exact fun e=>X4 (e▸ha)⟩,fun x hx=>by
              rcases List.mem_append.1 hx with h|h
              ·exact hN.out.2.1 x h
              ·obtain rfl:=List.mem_singleton.1 h
               exact hu,by have:=hN.out.2.2;simp only[List.length_append,List.length_cons,List.length_nil];omega⟩
            obtain⟨an2,hal2⟩:=Zv ((Yy a2).length);have han2:an2≤65536:=by
             have h1:=hN.out.2.2;rw[List.length_map]at Va hal2;omega
            have hTm:=Zg ht;have hal':=Zg Va;have hal2':=Zg hal2;have hanN':=Zg hanN;have han2':=Zg han2;replace ZQ:=Zg ZQ;replace WW:=Zg WW;clear hSC ht e1 e2 X4 hui Va hal2 hanN han2 hu;go_wp2_with fail;refine (YN ZQ.out).mono ?_;rintro e w' ⟨rfl,y8,rfl⟩;have Z0:=Zg (hR.out.plus y8);generalize Go.Proofs.YtheaknidbcbneaaGreat.plus wr y8=W1 at Z0 ⊢;clear hR ZQ hgc9;obtain⟨g8,hg8,-,hgc8⟩:=(Z0.out.tail.tail).cell Tk.out hTm.out;obtain rfl:g8=g9:=by simp only[Option.some.injEq,Addr.mk.injEq,and_true]at hg8;exact hg8.symm
            clear hg8;go_wp2_with (at_builtin;refine Rp (.slice s9 an d9) an hal'.out (Z0.out.alloc _) (by have:=hanN'.out;omega) (u:Int) W1.heap.size ((Z4 W1 _ _ _ 0 rfl).trans rfl) rfl _ _ rfl rfl rfl ?_);intro v5 w5 hR5;rw[show Yy a1++[(u:Int)]=Yy (a1++[u]) by simp[Yy]]at hR5;have hR6:=Zg (hR5.perm (List.Perm.swap _ _ _));obtain⟨g7,hg7,-,hgc7⟩:=(hR5.tail.tail).cell Tk.out hTm.out;obtain rfl:g7=g8:=by simp only[Option.some.injEq,Addr.mk.injEq,and_true]at hg7;exact hg7.symm
            clear hg7 hR5 Z0 hgc8;go_wp2_with (at_builtin;refine Rp u7 an2 hal2'.out (hR6.out.alloc _) (by have:=han2'.out;omega) (u:Int) w5.heap.size ((Z4 w5 _ _ _ 0 rfl).trans rfl) rfl _ _ rfl rfl rfl ?_);intro v7 w7 hR7;have hR8:Hid (RR W w7 [(v5,Yy (a1++[u])),(v7,Yy (a2++[u])),(.slice (some ⟨g7,0,none⟩) tN c9,TL),(.slice (some ⟨ga,0,none⟩) nn nc,Yy ln)] []):=Zg (by
             have h:=hR7.perm (List.Perm.swap _ _ _);simpa [Yy]using h)
            clear hR7 hR6 hgc7;go_wp2_with fail;go_roundw
            case rel=>exact⟨m+1,a1++[u],a2++[u],Wm,congrArg (Zt .i64) b6.out,hR8,WW,VE⟩
            case measure=>exact YF m tN Wm b6.out
          ·have e2b:decide (0≤t)=false:=decide_eq_false e2
           have hSC2:=Zg ((GQ (g:=gF steps) (by omega)).symm.trans WW);clear WW hSC ht e1;go_wp2_with fail;go_roundw
           case rel=>exact⟨m+1,a1,a2,Wm,congrArg (Zt .i64) b6.out,hR,hSC2,hN⟩
           case measure=>exact YF m tN Wm b6.out
        ·obtain rfl:m=tN:=by omega
         have hSC2:Hid (WR (gF steps) i (ln.drop (k+1)) (a1,a2)=RES):=Zg (by
          have h:=hSC.out;rw[Zh (by rw[Tk.out];exact Zp _)]at h;exact h)
         have hR15:Hid (RR W wr [(u5,Yy a1),(u7,Yy a2),(.slice (some ⟨ga,0,none⟩) nn nc,Yy ln)] []):=Zg ((hR.out.perm (by
          refine (List.Perm.cons _ (List.Perm.swap _ _ _)).trans ?_;exact List.Perm.swap _ _ _)).tail)
         clear hR hSC;go_wp2_with fail;go_roundw
         case rel=>exact⟨k+1,a1,a2,Zz,congrArg (Zt .i64) a6.out,hR15,hSC2,hN⟩
         case measure=>exact YF k nn Zz a6.out
    ·obtain rfl:k=nn:=by omega
     have W4:Hid (WR (gF steps) i ln (ls,[])=some (l1,l2)):=Zg (by
      rw[hRESk.out,←hRS.out,Zh (by rw[hnn'.out];exact Zp _)];rfl)
     have Yz:=Zg (N0 hB.out W4.out);have hR16:Hid (RR W wr [(u7,Yy l2),(u5,Yy l1)] []):=Zg ((hR.out.perm (by
      refine (List.Perm.cons _ (List.Perm.swap _ _ _)).trans ?_;exact List.Perm.swap _ _ _)).tail.perm (List.Perm.swap _ _ _))
     have XB:Hid (l2.length≤l1.length+1):=Zg (by have:=hN.out.2.2;omega);obtain⟨f5,d5,hf5,-⟩:=hR16.out.tail.form;obtain⟨f7,d7,hf7,-⟩:=hR16.out.form;rw[List.length_map]at hf5 hf7;have hmeas:Hid (2*(q2n-T9 u5)+(if T9 u7=0 then 0 else 1)<2*(q2n-T9 (Value.slice sp sn sc))+(if T9 (Value.slice np k nc)=0 then 0 else 1)):=Zg (by
      obtain⟨new,he,-⟩:=Qo _ _ _ W4.out;obtain⟨h1,h2⟩:=Prod.mk.inj he;have h3:=QT Th.out Yz.out;rw[hgl.out]at h3;rw[hf5,hf7];show 2*(q2n-l1.length)+(if l2.length=0 then 0 else 1)<2*(q2n-sn)+(if k=0 then 0 else 1)
      rw[if_neg h0];rw[h1,List.length_append,hsn'.out]at h3 ⊢;rw[h2,List.nil_append];split <;> omega)
     clear hR hRS hN hf5 hf7;go_wp2_with fail;go_roundw
     case rel=>exact⟨l1,l2,hR16,Yz,XB⟩
     case measure=>exact hmeas.out
end Go.Proofs.YtheaknidbcbneaaGreat

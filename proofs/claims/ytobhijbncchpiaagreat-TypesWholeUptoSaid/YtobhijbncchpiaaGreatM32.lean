/-
  WHAT IS PROVED HERE: a part of the proof (made narrower and merged by program; the parts: Zt Wl Du).
-/
import Derived.Test.YtobhijbncchpiaaGreatM31
import Derived.Test.YtobhijbncchpiaaGreatM22
import Derived.Test.YtobhijbncchpiaaGreatM23
import Derived.Test.YtobhijbncchpiaaGreatM29
import Derived.Test.YtobhijbncchpiaaGreatM15
namespace Go.Proofs.YtobhijbncchpiaaGreat
open Go.RowKit Go.Shelf
attribute [local go_sem] Oper.semAt_some
set_option maxRecDepth 100000 in
set_option maxHeartbeats 4000000 in
theorem items_in (v:Array Value) (W:World):CallsIn Fence.wide 0 Tryz.prog 30 #[.agg v] W (fun e w'=>e=.returned (.func (.func 66) #[] #[.pointer (some ⟨W.heap.size,0,none⟩)])∧w'=W.alloc (.cells v 30)):=by
 refine callsIn_of_wp Tryz.func30 rfl trivial ?_ rfl
 simp only [Tryz.ntmps30,List.size_toArray,List.length_cons,List.length_nil,Nat.reduceAdd,Nat.reduceSub,Array.replicate_succ,Array.replicate_zero,List.push_toArray,List.append_toArray,List.nil_append,List.cons_append]
 gi_wp2
 go_ret
 exact⟨rfl,rfl⟩
abbrev noB:Nat→Prop:=fun _=>False
theorem Boxed.kq1 {W W':World} {l b:Nat} {t:TypeId} {v:Value} (h:Boxed W b t v) (hl:b < l) (k:Kq (fun x=>x=l) W W'):Boxed W' b t v :=
 ((k.low (b+1) (by have:=h.lt;omega) (fun _ e=>by omega)).block b (by omega)).trans h
theorem Boxed.plus {W:World} {b:Nat} {t:TypeId} {v:Value} (h:Boxed W b t v) (y:Ext):Boxed (plus W y) b t v:=heap_plus h y
theorem at_add (b j:Nat):(⟨b,0,none⟩:Addr).add j=⟨b,j,none⟩:=by simp [Addr.add];exact fun h=>h.symm
/-- What an item's value looks like. -/
theorem It.shape (z:It):∃ kd a b skd shd snm sop slw slh sll sehd senm shi slo sep sen sec stp stn stc sup sun suc,z.v=.agg #[.int .u8 kd,.int .i64 a,.int .i64 b,.int .u8 skd,.string shd,.string snm,.int .u8 sop,.int .i64 slw,.int .u64 slh,.int .u64 sll,.string sehd,.string senm,.int .i64 shi,.int .i64 slo,.slice sep sen sec,.slice stp stn stc,.slice sup sun suc]:=by
 cases z
 ·exact⟨_,_,_,_,_,_,_,_,_,_,_,_,_,_,_,_,_,_,_,_,_,_,_,rfl⟩
 ·exact⟨_,_,_,_,_,_,_,_,_,_,_,_,_,_,_,_,_,_,_,_,_,_,_,rfl⟩
theorem three_boxes (V:World) (c:Array Value) (x y:Value) (t u s:TypeId):∃ W,((V.alloc (.cells c t)).alloc (.cells #[x] u)).alloc (.cells #[y] s)=W∧(∃ z,W=plus V z)∧(∀ j v,c[j]?=some v→W.cell? ⟨V.heap.size,j,none⟩=some v)∧Boxed W (V.heap.size+1) u x∧Boxed W (V.heap.size+1+1) s y∧W.heap.size=V.heap.size+1+1+1:=by
 have b2:=(Boxed.new (V.alloc (.cells c t)) u x).alloc (.cells #[y] s)
 have b3:=Boxed.new ((V.alloc (.cells c t)).alloc (.cells #[x] u)) s y
 simp only [World.size_alloc] at b2 b3
 exact⟨_,rfl,plus_of_below ((((Below.refl _ V).alloc (Nat.le_refl _) _).alloc (by simp) _).alloc (by simp;omega) _),fun j v hj=>cell_alloc (cell_alloc ((cell_new V c t _ j rfl).trans hj) _) _,b2,b3,by simp⟩
theorem sum_le2 {α:Type} (f g:α→Nat):∀ l:List α,(∀ x ∈ l,f x≤2*g x)→(l.map f).sum≤2*(l.map g).sum
 | [],_=>by simp
 | x :: l,h=>by
  have h1:=h x (List.mem_cons_self ..)
  have h2:=sum_le2 f g l fun y hy=>h y (List.mem_cons_of_mem _ hy)
  simp only [List.map_cons,List.sum_cons]
  omega
theorem enc_le (a:Int):∀ s:St,(s.enc a).length≤s.sz:=fun s=>St.ind (Q:=fun s=>(s.enc a).length≤s.sz) (fun s h1 h2=>by
 have e:=St.sz_eq s
 rw [St.enc_eq,List.length_cons,List.length_append,St.encs_len,St.encs_len]
 have q:∀ l:List St,(∀ x ∈ l,(x.enc a).length≤x.sz)→(l.map fun s=>(s.enc a).length).sum≤(l.map St.sz).sum:=fun l=>by
  induction l with
  | nil=>intro _;simp
  | cons x l ih =>
   intro h
   have h1:=h x (List.mem_cons_self ..)
   have h2:=ih fun y hy=>h y (List.mem_cons_of_mem _ hy)
   simp only [List.map_cons,List.sum_cons]
   omega
 have q1:=q _ h1
 have q2:=q _ h2
 omega) s
theorem encs_le (a:Int) (l:List St):(St.encs a l).length≤2*(l.map St.sz).sum:=by
 rw [St.encs_len]
 exact sum_le2 _ _ l fun x _=>by have:=enc_le a x;omega
theorem encP_len (p:Pr) (hz:p.sz≤1048576):(encP p).length≤2097152:=by
 unfold Pr.sz Sl.size at hz
 have l1:(e1 p).length=(p.headers.l.map lenH).sum:=flI_len _ _ (fun a x=>encH_len a x) _ _
 have l2:(e2 p).length=(p.metas.l.map fun _=>1).sum:=flI_len (fun a (_:Fd)=>[It.num 3 a 0]) (fun _=>1) (fun _ _=>rfl) _ _
 have l3:(e3 p).length=(p.states.l.map lenS).sum:=flI_len _ _ (fun a x=>encS_len a x) _ _
 have l4:(e4 p).length=(p.actions.l.map lenA).sum:=flI_len _ _ (fun a x=>encA_len a x) _ _
 have l5:(e5 p).length=(p.tables.l.map lenT).sum:=flI_len _ _ (fun a x=>encT_len a x) _ _
 have l6:=encs_le (-1) p.control.l
 have l7:(e7 p).length=(p.emit.l.map fun _=>1).sum:=flI_len (fun a (_:ByteArray)=>[It.num 15 a 0]) (fun _=>1) (fun _ _=>rfl) _ _
 have s1:=sum_le2 lenH Hr.sz p.headers.l fun x _=>by have:=length_le_sum Fd.sz (fun y=>by unfold Fd.sz;omega) x.fields.l;unfold lenH Hr.sz Sl.size;omega
 have s2:=sum_le2 (fun _=>1) Fd.sz p.metas.l fun x _=>by unfold Fd.sz;omega
 have s3:=sum_le2 lenS Sa.sz p.states.l fun x _=>by have:=length_le_sum strSize (fun y=>by unfold strSize;omega) x.takes.l;have:=length_le_sum Ca.sz (fun y=>by unfold Ca.sz;omega) x.cases.l;unfold lenS Sa.sz Sl.size;omega
 have s4:=sum_le2 lenA Ac.sz p.actions.l fun x _=>by have:=length_le_sum Fd.sz (fun y=>by unfold Fd.sz;omega) x.params.l;have:=encs_le 0 x.body.l;unfold lenA Ac.sz Sl.size;omega
 have s5:=sum_le2 lenT Ta.sz p.tables.l fun x _=>by have:=length_le_sum Ke.sz (fun y=>by unfold Ke.sz;omega) x.keys.l;have:=length_le_sum strSize (fun y=>by unfold strSize;omega) x.actions.l;unfold lenT Ta.sz Sl.size;omega
 have s7:=sum_le2 (fun _=>1) strSize p.emit.l fun x _=>by unfold strSize;omega
 unfold encP
 simp only [List.length_append]
 unfold e6
 omega
theorem res_cells (tmps:Array Value) (b c:Nat) (x y:Value) (W:World) (h2:W.cell? ⟨b,0,none⟩=some x) (h3:W.cell? ⟨c,0,none⟩=some y) (t2:tmps.getD 2 undef=.pointer (some ⟨b,0,none⟩)) (t3:tmps.getD 3 undef=.pointer (some ⟨c,0,none⟩)) :
  (results Tryz.f17 tmps).run Tryz.prog W=.ok (.tuple #[x,y]) W:=by
 have e1:(isAgg 3).run Tryz.prog W=.ok false W:=by kernel_rfl
 have e2:(isAgg 33).run Tryz.prog W=.ok false W:=by kernel_rfl
 have l2:(load ⟨b,0,none⟩).run Tryz.prog W=.ok x W:=by rw [run_load,h2]
 have l3:(load ⟨c,0,none⟩).run Tryz.prog W=.ok y W:=by rw [run_load,h3]
 simp only [Array.getD_eq_getD_getElem?] at t2 t3
 simp [results,loadVar,t2,t3,asAddr,Sem.run_bind,e1,e2,l2,l3,Result.andThen]
set_option maxRecDepth 100000 in
set_option maxHeartbeats 8000000 in
theorem check_yes (p:Pr) (w:World) (hin:p.In w) (hz:p.sz≤1048576)
  (hmay:Kp Tryz.prog w 29 #[.agg #[.slice p.headers.p p.headers.l.length p.headers.cap,.slice p.metas.p p.metas.l.length p.metas.cap,.slice p.states.p p.states.l.length p.states.cap,.slice p.actions.p p.actions.l.length p.actions.cap,.slice p.tables.p p.tables.l.length p.tables.cap,.slice p.control.p p.control.l.length p.control.cap,.slice p.emit.p p.emit.l.length p.emit.cap]] (.bool true)) :
  Kp Tryz.prog w 17 #[.agg #[.slice p.headers.p p.headers.l.length p.headers.cap,.slice p.metas.p p.metas.l.length p.metas.cap,.slice p.states.p p.states.l.length p.states.cap,.slice p.actions.p p.actions.l.length p.actions.cap,.slice p.tables.p p.tables.l.length p.tables.cap,.slice p.control.p p.control.l.length p.control.cap,.slice p.emit.p p.emit.l.length p.emit.cap]] (.tuple #[.int .i64 ((scanI p (encP p) 0).1:Int),.int .i64 (scanI p (encP p) 0).2]):=by
 intro y0
 have hin:=hin.plus y0
 have hmay:=hmay.up y0
 obtain⟨V,hV⟩:∃ V,plus w y0=V:=⟨_,rfl⟩
 rw [hV] at hin hmay ⊢
 clear hV
 have hin':=Lib.hid hin
 have hmay':=Lib.hid hmay
 clear hin hmay
 refine (callsIn_wide (n:=0)).1 ?_
 refine callsIn_of_wp_marks Tryz.func17 rfl trivial ?_ rfl
 simp only [Tryz.ntmps17,List.size_toArray,List.length_cons,List.length_nil,Nat.reduceAdd,Nat.reduceSub,Array.replicate_succ,Array.replicate_zero,List.push_toArray,List.append_toArray,List.nil_append,List.cons_append]
 gi_wp2
 obtain⟨W3,hW3,⟨z3,hz3⟩,cp,c2,c3,hs3⟩:=three_boxes V _ _ _ 30 3 33
 rw [hW3]
 have qm:=(kp_at hz3 hmay'.out) ⟨#[],W3.drawn⟩
 rw [plus_self] at qm
 have hz3':=Lib.hid hz3
 clear hz3 hW3
 refine⟨trivial,rfl,CallsIn.mono (callsIn_wide.2 qm) ?_⟩
 rintro e U ⟨rfl,x1,hU⟩
 have hzU:=Lib.hid (show U=plus V _ by rw [hU,hz3'.out,plus_plus])
 have c2:Boxed U _ _ _:=(by rw [hU];exact heap_plus c2 x1)
 have c3:Boxed U _ _ _:=(by rw [hU];exact heap_plus c3 x1)
 have cp:=fun j v hj=>show U.cell? _=some v by rw [hU];exact cell_keep (cp j v hj) x1
 have hsU:V.heap.size+1+1+1≤U.heap.size:=by rw [hU,← hs3];exact size_plus W3 x1
 clear hU hz3' hs3 qm
 obtain⟨b1,hb1⟩:∃ b,V.heap.size=b:=⟨_,rfl⟩
 rw [hb1] at cp c2 c3 hsU ⊢
 have d0:=fun o:Obj=>cell_alloc (cp 0 _ rfl) o
 have d1:=fun o:Obj=>cell_alloc (cp 1 _ rfl) o
 have d2:=fun o:Obj=>cell_alloc (cp 2 _ rfl) o
 have d3:=fun o:Obj=>cell_alloc (cp 3 _ rfl) o
 have d4:=fun o:Obj=>cell_alloc (cp 4 _ rfl) o
 have d5:=fun o:Obj=>cell_alloc (cp 5 _ rfl) o
 have d6:=fun o:Obj=>cell_alloc (cp 6 _ rfl) o
 have cp':=Lib.hid cp
 have c2':=Lib.hid c2
 have c3':=Lib.hid c3
 clear cp c2 c3
 gi_wp2
 refine⟨trivial,rfl,CallsIn.mono (items_in _ _) ?_⟩
 rintro e X ⟨rfl,hX⟩
 obtain⟨c,hc⟩:∃ c,U.heap.size=c:=⟨_,rfl⟩
 have n0:=(Boxed.new U 3 (.int .i64 0)).alloc (.cells #[.slice p.headers.p p.headers.l.length p.headers.cap,.slice p.metas.p p.metas.l.length p.metas.cap,.slice p.states.p p.states.l.length p.states.cap,.slice p.actions.p p.actions.l.length p.actions.cap,.slice p.tables.p p.tables.l.length p.tables.cap,.slice p.control.p p.control.l.length p.control.cap,.slice p.emit.p p.emit.l.length p.emit.cap] 30)
 have hXU:Kq noB U X:=by rw [hX];exact (Kq.alloc noB U _).trans (Kq.alloc noB _ _)
 have hUV:=hzU.out
 have hVX:Below V.heap.size V X:=by
  have h1:Below V.heap.size V U:=by rw [hUV];exact below_plus V _
  exact h1.trans (hXU.low _ (by rw [hb1];omega) (fun _ h=>h.elim))
 have m2:Boxed X (b1+1) 3 (.int .i64 0):=by rw [hX];exact (c2'.out.alloc _).alloc _
 have m3:Boxed X (b1+1+1) 33 (.int .i64 0):=by rw [hX];exact (c3'.out.alloc _).alloc _
 have m4:Boxed X c 3 (.int .i64 0):=by rw [hX,← hc];exact n0
 have mp:∀ j v,p.cells[j]?=some v→X.cell? ⟨b1,j,none⟩=some v:=fun j v hj=>hXU.cell _ _ (fun h=>h) (cp'.out j v (by simpa [Pr.cells,Sl.v] using hj))
 have mq:∀ j v,p.cells[j]?=some v→X.cell? ⟨c+1,j,none⟩=some v:=fun j v hj=>by
  rw [hX,← hc,show U.heap.size+1=(U.alloc (.cells #[.int .i64 0] 3)).heap.size by simp]
  exact (cell_new _ _ _ _ j rfl).trans (by simpa [Pr.cells,Sl.v] using hj)
 have hsX:X.heap.size=c+2:=by rw [hX,← hc];simp
 have hbc:b1+3≤c:=by omega
 rw [hc]
 simp only [World.size_alloc,hc]
 obtain⟨zX,hzX⟩:=plus_of_below hVX
 have hzX':=Lib.hid hzX
 have hinX:p.In X:=by rw [hzX];exact hin'.out.plus zX
 have hinV:=hin'.out
 have hqX:∀ S,Kq S V X:=fun S=>by rw [hzX];exact Kq.plus S V zX
 have hb1X:b1+3≤c:=hbc
 have I2:=Lib.hid m2
 have I3:=Lib.hid m3
 have I4:=Lib.hid m4
 have IP:=Lib.hid mp
 have IQ:=Lib.hid mq
 have IV:=Lib.hid hinV
 have IX:=Lib.hid hqX
 have IS:=Lib.hid hsX
 have IB:=Lib.hid hbc
 have IE:=Lib.hid hb1
 clear hX n0 hXU hUV hVX m2 m3 m4 mp mq hsX hbc hb1 cp' c2' c3' hzU d0 d1 d2 d3 d4 d5 d6 hin' hmay' hsU hc hzX hinX hinV hqX hb1X hzX'
 gi_wp2
 refine wpIn_rangeFunc_next (gf:=66) (lb:=#[.pointer (some ⟨c+1,0,none⟩)]) rfl (enters_of Tryz.func66 (by kernel_rfl) rfl) (encP p) It.v (fun b=>b=b1+1∨b=b1+1+1∨b=c) ?seq rfl
  (fun k W=>Kq (fun b=>(b=b1+1∨b=b1+1+1∨b=c)∨c+2≤b) X W∧Boxed W (b1+1) 3 (.int .i64 0)∧Boxed W (b1+1+1) 33 (.int .i64 0)∧Boxed W c 3 (.int .i64 (k:Int))∧∀ j y,j < k→(encP p)[j]?=some y→wrI p y=0)
  (fun W=>Kq (fun b=>(b=b1+1∨b=b1+1+1∨b=c)∨c+2≤b) X W∧∃ (k:Nat) (z:It),(encP p)[k]?=some z∧(∀ j y,j < k→(encP p)[j]?=some y→wrI p y=0)∧wrI p z≠0∧Boxed W (b1+1) 3 (.int .i64 (k:Int))∧Boxed W (b1+1+1) 33 (.int .i64 (wrI p z)))
  ?hI ?hIx ?h0 ?round ?done ?stop
 case seq =>
  intro l J Jx W hl hlt hk hJ hN h0
  have hs:=IS.out
  have hb:=IB.out
  have he:=IE.out
  have hsz:=hk.size
  refine items1_in l p (fun b=>(b=b1+1∨b=b1+1+1∨b=c)∨b=l) J Jx ⟨hN,hJ⟩ V (fun b h=>?_) IV.out hz (c+1) W ((IX.out _).trans (hk.mono fun _ h=>.inr h)) (fun b h=>?_) (fun h=>?_) (fun j v hj=>?_) h0
  ·omega
  ·omega
  ·omega
  ·rw [at_add];exact hk.cell _ _ (fun h=>by simp only at h;omega) (IQ.out j v hj)
 case hI =>
  rintro k l W W' hl ⟨h1,h2,h3,h4,h5⟩ hk
  have hs:=IS.out
  have hb:=IB.out
  exact⟨h1.trans (hk.mono fun _ h=>.inr (by omega)),Boxed.kq1 h2 (by omega) hk,Boxed.kq1 h3 (by omega) hk,Boxed.kq1 h4 (by omega) hk,h5⟩
 case hIx =>
  rintro l W W' hl ⟨h1,k,z,h2,h3,h4,h5,h6⟩ hk
  have hs:=IS.out
  have hb:=IB.out
  exact⟨h1.trans (hk.mono fun _ h=>.inr (by omega)),k,z,h2,h3,h4,Boxed.kq1 h5 (by omega) hk,Boxed.kq1 h6 (by omega) hk⟩
 case h0=>exact⟨Kq.refl _ _,I2.out,I3.out,I4.out,fun j y h=>absurd h (Nat.not_lt_zero j)⟩
 case round =>
  rintro l k z W hl hlt hx ⟨h1,h2,h3,h4,h5⟩
  obtain⟨kd,a,b,skd,shd,snm,sop,slw,slh,sll,sehd,senm,shi,slo,sep,sen,sec,stp,stn,stc,sup,sun,suc,hzv⟩:=z.shape
  rw [hzv]
  gi_wp2
  refine⟨(KeepsOthers.alloc _ _).from _,Kq.alloc _ _ _,fun W2 hk2 hs2=>?_⟩
  have hs:=IS.out
  have hb:=IB.out
  have he:=IE.out
  have hne:W.heap.size≠l:=by omega
  have i0:=hk2.cell ⟨W.heap.size,0,none⟩ _ (fun h=>hne h) ((cell_new W _ _ _ 0 rfl).trans rfl)
  have i1:=hk2.cell ⟨W.heap.size,1,none⟩ _ (fun h=>hne h) ((cell_new W _ _ _ 1 rfl).trans rfl)
  have i2:=hk2.cell ⟨W.heap.size,2,none⟩ _ (fun h=>hne h) ((cell_new W _ _ _ 2 rfl).trans rfl)
  have i3:=hk2.cell ⟨W.heap.size,3,none⟩ _ (fun h=>hne h) ((cell_new W _ _ _ 3 rfl).trans rfl)
  have i4:=hk2.cell ⟨W.heap.size,4,none⟩ _ (fun h=>hne h) ((cell_new W _ _ _ 4 rfl).trans rfl)
  have i5:=hk2.cell ⟨W.heap.size,5,none⟩ _ (fun h=>hne h) ((cell_new W _ _ _ 5 rfl).trans rfl)
  have i6:=hk2.cell ⟨W.heap.size,6,none⟩ _ (fun h=>hne h) ((cell_new W _ _ _ 6 rfl).trans rfl)
  have i7:=hk2.cell ⟨W.heap.size,7,none⟩ _ (fun h=>hne h) ((cell_new W _ _ _ 7 rfl).trans rfl)
  have i8:=hk2.cell ⟨W.heap.size,8,none⟩ _ (fun h=>hne h) ((cell_new W _ _ _ 8 rfl).trans rfl)
  have i9:=hk2.cell ⟨W.heap.size,9,none⟩ _ (fun h=>hne h) ((cell_new W _ _ _ 9 rfl).trans rfl)
  have i10:=hk2.cell ⟨W.heap.size,10,none⟩ _ (fun h=>hne h) ((cell_new W _ _ _ 10 rfl).trans rfl)
  have i11:=hk2.cell ⟨W.heap.size,11,none⟩ _ (fun h=>hne h) ((cell_new W _ _ _ 11 rfl).trans rfl)
  have i12:=hk2.cell ⟨W.heap.size,12,none⟩ _ (fun h=>hne h) ((cell_new W _ _ _ 12 rfl).trans rfl)
  have i13:=hk2.cell ⟨W.heap.size,13,none⟩ _ (fun h=>hne h) ((cell_new W _ _ _ 13 rfl).trans rfl)
  have i14:=hk2.cell ⟨W.heap.size,14,none⟩ _ (fun h=>hne h) ((cell_new W _ _ _ 14 rfl).trans rfl)
  have i15:=hk2.cell ⟨W.heap.size,15,none⟩ _ (fun h=>hne h) ((cell_new W _ _ _ 15 rfl).trans rfl)
  have i16:=hk2.cell ⟨W.heap.size,16,none⟩ _ (fun h=>hne h) ((cell_new W _ _ _ 16 rfl).trans rfl)
  have d0:=hk2.cell ⟨b1,0,none⟩ _ (fun h=>by simp only at h;omega) (cell_alloc (h1.cell ⟨b1,0,none⟩ _ (fun h=>by simp only at h;omega) (IP.out 0 _ rfl)) _)
  have d1:=hk2.cell ⟨b1,1,none⟩ _ (fun h=>by simp only at h;omega) (cell_alloc (h1.cell ⟨b1,1,none⟩ _ (fun h=>by simp only at h;omega) (IP.out 1 _ rfl)) _)
  have d2:=hk2.cell ⟨b1,2,none⟩ _ (fun h=>by simp only at h;omega) (cell_alloc (h1.cell ⟨b1,2,none⟩ _ (fun h=>by simp only at h;omega) (IP.out 2 _ rfl)) _)
  have d3:=hk2.cell ⟨b1,3,none⟩ _ (fun h=>by simp only at h;omega) (cell_alloc (h1.cell ⟨b1,3,none⟩ _ (fun h=>by simp only at h;omega) (IP.out 3 _ rfl)) _)
  have d4:=hk2.cell ⟨b1,4,none⟩ _ (fun h=>by simp only at h;omega) (cell_alloc (h1.cell ⟨b1,4,none⟩ _ (fun h=>by simp only at h;omega) (IP.out 4 _ rfl)) _)
  have d5:=hk2.cell ⟨b1,5,none⟩ _ (fun h=>by simp only at h;omega) (cell_alloc (h1.cell ⟨b1,5,none⟩ _ (fun h=>by simp only at h;omega) (IP.out 5 _ rfl)) _)
  have d6:=hk2.cell ⟨b1,6,none⟩ _ (fun h=>by simp only at h;omega) (cell_alloc (h1.cell ⟨b1,6,none⟩ _ (fun h=>by simp only at h;omega) (IP.out 6 _ rfl)) _)
  have hVW:Kq (fun b=>(b=b1+1∨b=b1+1+1∨b=c)∨c+2≤b) V W2:=(((IX.out _).trans h1).trans (Kq.alloc _ _ _)).trans (hk2.mono fun _ h=>.inr (by omega))
  have hin2:p.In W2:=kq_pr hVW (fun b h=>by omega) IV.out
  have hmem:=List.mem_of_getElem? hx
  have hw:=wrong_in p W2 hin2 hz z (enc_ok p W2 hin2 hz z hmem) (safe_next p k z hx h5) ⟨#[],W2.drawn⟩
  rw [plus_self,hzv] at hw
  have m2:=Boxed.kq1 (Boxed.alloc h2 _) (by omega) hk2
  have m3:=Boxed.kq1 (Boxed.alloc h3 _) (by omega) hk2
  have m4:=Boxed.kq1 (Boxed.alloc h4 _) (by omega) hk2
  have h1':=Lib.hid (((h1.trans (Kq.alloc _ _ _)).trans (hk2.mono fun _ h=>.inr (by omega))))
  have hw':=Lib.hid hw
  have h5':=Lib.hid h5
  have hx':=Lib.hid hx
  clear hw hVW hin2 hmem h1 h2 h3 h4 h5 hx hk2 hs2 hzv hne
  have hkl:=(List.getElem?_eq_some_iff.1 hx'.out).1
  have hkb:=encP_len p hz
  obtain⟨e,hev⟩:∃ e,wrI p z=e:=⟨_,rfl⟩
  rw [hev] at hw'
  have hev':=Lib.hid hev
  clear hev
  gi_wp2
  refine⟨trivial,rfl,CallsIn.mono (CallsIn.inRound l (callsIn_wide.2 hw'.out)) ?_⟩
  rintro e' W3 ⟨rfl,x3,hW3⟩
  have n2:Boxed W3 _ _ _:=(by rw [hW3];exact Boxed.plus m2 x3)
  have n3:Boxed W3 _ _ _:=(by rw [hW3];exact Boxed.plus m3 x3)
  have n4:Boxed W3 _ _ _:=(by rw [hW3];exact Boxed.plus m4 x3)
  have k1:∀ T,Kq T W2 W3:=fun T=>by rw [hW3];exact Kq.plus T W2 x3
  have k2:KeepsFrom X.heap.size W2 W3:=by rw [hW3];exact⟨size_plus W2 x3,fun i o _ h _=>heap_plus h x3⟩
  have k3:=Lib.hid (h1'.out.trans (k1 _))
  have k1':=Lib.hid k1
  have k2':=Lib.hid k2
  have c4:=n4.cell
  have f4:=n4.frozen
  have c2:=n2.cell
  have f2:=n2.frozen
  have c3:=n3.cell
  have f3:=n3.frozen
  have N2:=Lib.hid n2
  have N3:=Lib.hid n3
  have N4:=Lib.hid n4
  clear n2 n3 n4 k1 k2 hW3 m2 m3 m4 i0 i1 i2 i3 i4 i5 i6 i7 i8 i9 i10 i11 i12 i13 i14 i15 i16 d0 d1 d2 d3 d4 d5 d6
  by_cases hz0:e=0
  ·subst hz0
   gi_wp2
   refine⟨k2'.out.trans ((KeepsOthers.setCell _ _ _).from _),(k1'.out _).trans (Kq.setCell _ _ _ (.inr (.inr rfl))),k3.out.trans (Kq.setCell _ _ _ (.inl (.inr (.inr rfl)))),Boxed.other N2.out (by omega) _,Boxed.other N3.out (by omega) _,?_,fun j y hj hy=>?_⟩
   ·have:=Boxed.set (.int .i64 ((k+1:Nat):Int)) N4.out
    rw [show ((k:Int)+1)=((k+1:Nat):Int) by omega]
    exact this
   ·by_cases hjk:j < k
    ·exact h5'.out j y hjk hy
    ·obtain rfl:j=k:=by omega
     rw [hx'.out] at hy
     obtain rfl:=Option.some.inj hy
     exact hev'.out
  ·have g0:(e == 0)=false:=by simpa using hz0
   gi_wp2
   refine⟨k2'.out.trans (((KeepsOthers.setCell _ _ _).from _).trans ((KeepsOthers.setCell _ _ _).from _)),(k3.out.trans (Kq.setCell _ _ _ (.inl (.inl rfl)))).trans (Kq.setCell _ _ _ (.inl (.inr (.inl rfl)))),k,z,hx'.out,h5'.out,by rw [hev'.out];exact hz0,Boxed.other (Boxed.set _ N2.out) (by omega) _,?_⟩
   rw [hev'.out]
   exact Boxed.set _ (Boxed.other N3.out (by omega) _)
 case done =>
  rintro D W hD ⟨h1,h2,h3,h4,h5⟩ hK
  have c4:=h4.cell
  have c2:=h2.cell
  have f2:=h2.frozen
  have c3:=h3.cell
  have f3:=h3.frozen
  have hs:=IS.out
  have hb:=IB.out
  have he:=IE.out
  have hsc:=Lib.hid (scan_none p (encP p) 0 h5)
  gi_wp2
  have m2:=Boxed.other (Boxed.set (.int .i64 ((encP p).length:Int)) h2) (show b1+1≠b1+1+1 by omega) (.int .i64 0)
  have m3:=Boxed.set (.int .i64 0) (Boxed.other h3 (show b1+1+1≠b1+1 by omega) (.int .i64 ((encP p).length:Int)))
  have hK':((W.setCell ⟨b1+1,0,none⟩ (.int .i64 ((encP p).length:Int))).setCell ⟨b1+1+1,0,none⟩ (.int .i64 0)).heap[D]?=some (.deferred (some [])):=by
   rw [Below.heap_setCell _ _ _ _ (by simp only;omega),Below.heap_setCell _ _ _ _ (by simp only;omega)]
   exact hK
  have kq:=(((IX.out _).trans h1).trans (Kq.setCell _ ⟨b1+1,0,none⟩ (.int .i64 ((encP p).length:Int)) (.inl (.inl rfl)))).trans (Kq.setCell _ ⟨b1+1+1,0,none⟩ (.int .i64 0) (.inl (.inr (.inl rfl))))
  refine⟨by simp,.inl ⟨_,_,rfl,run_takeDeferred hK',?_⟩⟩
  refine⟨_,res_cells _ (b1+1) (b1+1+1) _ _ _ ((cell_putObj hK' rfl rfl _).trans m2.cell) ((cell_putObj hK' rfl rfl _).trans m3.cell) rfl rfl,?_,?_⟩
  ·rw [hsc.out,Nat.zero_add]
  ·exact plus_of_below ((kq.trans (Kq.putObj _ hK' rfl rfl (.inr (by omega)))).low _ (Nat.le_refl _) (fun b h=>by omega))
 case stop =>
  rintro D W hD ⟨h1,k,z,h2,h3,h4,h5,h6⟩ hK
  have hs:=IS.out
  have hb:=IB.out
  have he:=IE.out
  have hsc:=Lib.hid (scan_some p (encP p) 0 k z h2 h3 h4)
  gi_wp2
  refine⟨by simp,.inl ⟨_,_,rfl,run_takeDeferred hK,?_⟩⟩
  refine⟨_,res_cells _ (b1+1) (b1+1+1) _ _ _ ((cell_putObj hK rfl rfl _).trans h5.cell) ((cell_putObj hK rfl rfl _).trans h6.cell) rfl rfl,?_,?_⟩
  ·rw [hsc.out,Nat.zero_add]
  ·exact plus_of_below ((((IX.out _).trans h1).trans (Kq.putObj _ hK rfl rfl (.inr (by omega)))).low _ (Nat.le_refl _) (fun b h=>by omega))
/-- An item's cells. -/
def It.cs:It→List Value
 | .num kind a b=>[.int .u8 kind,.int .i64 (a:Int),.int .i64 (b:Int),.int .u8 0,.string ⟨#[]⟩,.string ⟨#[]⟩,.int .u8 0,.int .i64 0,.int .u64 0,.int .u64 0,.string ⟨#[]⟩,.string ⟨#[]⟩,.int .i64 0,.int .i64 0,.slice none 0 0,.slice none 0 0,.slice none 0 0]
 | .st a s=>[.int .u8 10,.int .i64 a,.int .i64 0,.int .u8 s.kind,.string s.head,.string s.name,.int .u8 s.e.op,.int .i64 s.e.lit.w,.int .u64 s.e.lit.h,.int .u64 s.e.lit.l,.string s.e.head,.string s.e.name,.int .i64 s.e.hi,.int .i64 s.e.lo,.slice s.e.p s.e.args.length s.e.cap,.slice s.p s.thn.length s.cap,.slice s.q s.els.length s.cbp]
theorem It.cs_len (z:It):z.cs.length=17:=by cases z <;> rfl
theorem It.cs_one (z:It):∀ u ∈ z.cs,u.oneCell'=true:=by
 intro u hu
 cases z <;>
 ·simp only [It.cs,List.mem_cons,List.not_mem_nil,or_false] at hu
  rcases hu with rfl | rfl | rfl | rfl | rfl | rfl | rfl | rfl | rfl | rfl | rfl | rfl | rfl | rfl | rfl | rfl | rfl <;> rfl
theorem item_info:(Tryz.prog.info? 49).map (fun i=>(i.zero,i.size,i.bytes))=some (some (.agg #[.int .u8 0,.int .i64 0,.int .i64 0,.int .u8 0,.string ⟨#[]⟩,.string ⟨#[]⟩,.int .u8 0,.int .i64 0,.int .u64 0,.int .u64 0,.string ⟨#[]⟩,.string ⟨#[]⟩,.int .i64 0,.int .i64 0,.slice none 0 0,.slice none 0 0,.slice none 0 0]),17,216):=by kernel_rfl
/-- A value holds these items, in memory made since w. -/
structure OwI (w W:World) (v:Value) (l:List It):Prop where
 below:Below w.heap.size w W
 own:W.ownsRow w.heap.size 49 17 v l.length ((l.map It.cs).flatten)
theorem owi_nil (w:World):OwI w w (.slice none 0 0) []:=⟨Below.refl _ _,World.ownsRow_nil _ _ _ _⟩
section
variable {w W W1 W2:World} {v v':Value} {l ys:List It}
theorem OwI.more (h:OwI w W v l) (hown:W2.ownsRow w.heap.size 49 17 v' (l.length+ys.length) ((l.map It.cs).flatten++(ys.map It.cs).flatten)) (hB:Below w.heap.size w W1) (hsz:w.heap.size≤W1.heap.size) (hg:W1.grownBy W2 v.ownBlock):OwI w W2 v' (l++ys) :=
 ⟨hB.grown hg hsz (fun k e=>(h.own.lt k e).1),by rw [List.length_append,List.map_append,List.flatten_append];exact hown⟩
theorem OwI.after (h:OwI w W v l) (hB:Below W.heap.size W W2):OwI w W2 v l :=
 ⟨h.below.trans (hB.mono h.below.size),by
  obtain⟨hl,h2⟩:=h.own
  refine⟨hl,?_⟩
  rcases h2 with h2 | ⟨g,cap,cur,hv,hg,hh,h3,h4,h5,h6⟩
  ·exact .inl h2
  ·exact .inr ⟨g,cap,cur,hv,hg,(hB.block g (Array.getElem?_eq_some_iff.1 hh).1).trans hh,h3,h4,h5,h6⟩⟩
theorem OwI.row (h:OwI w W v l):∃ p c,v=.slice p l.length c∧RowAt W 17 It.cs p l:=by
 by_cases hn:0 < l.length
 ·obtain⟨g,c,rfl,_,_⟩:=own_sl h.own hn
  exact⟨_,c,rfl,own_row h.own (fun y _=>y.cs_len)⟩
 ·obtain rfl:l=[]:=List.length_eq_zero_iff.1 (by omega)
  rcases h.own.2 with ⟨rfl,_⟩ | ⟨g,cap,cur,rfl,_⟩
  ·exact⟨none,0,rfl,fun i x hx=>by simp at hx⟩
  ·exact⟨_,cap,rfl,fun i x hx=>by simp at hx⟩
theorem OwI.plus (h:OwI w W v l):∃ z,W=plus w z:=plus_of_below h.below
end
section
variable {w W:World} {v:Value} {l:List It} {ops:Array Oper} {rest:List Oper} {o:Oper} {a:Act} {Q:Exit→Act→World→Prop}
/-- Items that lie in a row are appended. -/
theorem its_sl (h:OwI w W v l) (ys:List It) (p:Option Addr) (m c:Nat) (hm:ys.length=m) (hrow:RowAt W 17 It.cs p ys) (hgd:o.guard=none) (s x:Operand) (ho:o.op=.call { callee:=.builtin .append,args:=#[s,x],argTypes:=#[36,36] })
  (hs:a.eval s=v) (hx:a.eval x=.slice p m c) (hb:l.length+m≤100000000) (k:∀ v' w',OwI w w' v' (l++ys)→wpList Tryz.prog ops Q rest (a.put o.dst v') w'):wpList Tryz.prog ops Q (o :: rest) a W:=by
 obtain⟨i0,hi0,hi1,hi2,hi3⟩:=info_parts item_info
 subst hm
 exact wpList_append_sl hgd s x _ ho w.heap.size 49 i0 _ 17 216 Tryz.underlying36 hi0 hi1 hi2 hi3 rfl (by decide) v l.length _ hs h.own p _ c ys It.cs hx rfl hrow (fun y _=>y.cs_len) (fun y _=>y.cs_one)
  (by simp only [maxLen];omega) (by omega) h.below.size fun v' w' h2 h3=>k v' w' (h.more h2 h.below h.below.size h3)
/-- One item, built in place, is appended. -/
theorem its_one (h:OwI w W v l) (z:It) (cs:Array Value) (hc:cs.toList=z.cs) (hgd:o.guard=none) (s x:Operand) (ho:o.op=.call { callee:=.builtin .append,args:=#[s,x],argTypes:=#[36,36] })
  (hs:a.eval s=v) (hx:a.eval x=.slice (some ⟨W.heap.size,0,none⟩) 1 1) (hb:l.length+1≤100000000) (k:∀ v' w',OwI w w' v' (l++[z])→wpList Tryz.prog ops Q rest (a.put o.dst v') w'):wpList Tryz.prog ops Q (o :: rest) a (W.alloc (.cells cs 49)):=by
 have h2:OwI w (W.alloc (.cells cs 49)) v l:=h.after ((Below.refl _ W).alloc (Nat.le_refl _) _)
 refine its_sl h2 [z] _ 1 1 rfl (fun i y hy=>⟨_,rfl,fun j u hu=>?_⟩) hgd s x ho hs hx hb k
 obtain⟨rfl,rfl⟩:i=0∧y=z:=by
  cases i with
  | zero=>exact⟨rfl,by simpa using hy.symm⟩
  | succ i=>simp at hy
 rw [Nat.zero_mul,Addr.add_lit,Addr.add_lit]
 simp only [Nat.zero_add]
 refine (cell_new W cs _ _ j rfl).trans ?_
 rw [← hc] at hu
 simpa using hu
end
theorem wr_succ2 (k n:Nat) (h:k < n) (hn:n≤2097152):wrap64 ((k:Int)+1)=((k+1:Nat):Int):=by
 rw [wr_in _ (by omega)]
 simp
theorem ptI_more (kind:Int) (a k:Nat):ptI kind a (k+1)=ptI kind a k++[.num kind a k]:=by
 simp [ptI,List.range_succ]
theorem ptI_length (kind:Int) (a k:Nat):(ptI kind a k).length=k:=by simp [ptI]
set_option maxRecDepth 100000 in
set_option maxHeartbeats 8000000 in
theorem r_many (kind:Int) (a n:Nat) (w:World) (hn:n≤2097152):Calls Tryz.prog 24 #[.int .u8 kind,.int .i64 (a:Int),.int .i64 (n:Int)] w fun e w'=>∃ v,e=.returned v∧OwI w w' v (ptI kind a n):=by
 have hn':=Lib.hid hn
 clear hn
 go_enter Tryz.func24,Tryz.ntmps24
 go_wp2
 go_loopw [7,8] (fun ov iv wr=>∃ k:Nat,k≤n∧iv=.int .i64 (k:Int)∧OwI w wr ov (ptI kind a k)) (fun _ iv _=>n - (intOf iv).toNat)
 case atStart=>exact⟨0,Nat.zero_le _,rfl,owi_nil w⟩
 case round =>
  obtain⟨k,hk,rfl,hI⟩:=hrel
  by_cases hlt:k < n
  ·have hI':=Lib.hid hI
   have a6:=Lib.hid (wr_succ2 k n hlt hn'.out)
   clear hI
   go_wp2_with (first|(at_builtin;refine its_one hI'.out (.num kind a k) _ rfl rfl _ _ rfl rfl rfl (by have:=hn'.out;rw [ptI_length];omega) ?_;intro v' w' h2;have h2':=Lib.hid h2;clear h2))
   go_roundw
   case rel=>exact⟨k+1,hlt,congrArg (Value.int .i64) a6.out,by rw [ptI_more];exact h2'.out⟩
   case measure=>exact step_less k n hlt a6.out
  ·obtain rfl:k=n:=by omega
   have hI':=Lib.hid hI
   clear hI hlt hk
   go_wp2
   go_ret
   exact⟨_,rfl,hI'.out⟩
open Go.Shelf
/-- An item as it lies in a row: of a kind, with two numbers, with a statement. -/
structure Ri where
 k:Int
 a:Int
 b:Int
 s:St
def Ri.cs (r:Ri):List Value:=.int .u8 r.k :: .int .i64 r.a :: .int .i64 r.b :: r.s.cells
theorem Ri.cs_len (r:Ri):r.cs.length=17:=rfl
theorem Ri.cs_one (r:Ri):∀ u ∈ r.cs,u.oneCell'=true:=by
 intro u hu
 simp only [Ri.cs,St.cells,List.mem_cons,List.not_mem_nil,or_false] at hu
 rcases hu with rfl | rfl | rfl | rfl | rfl | rfl | rfl | rfl | rfl | rfl | rfl | rfl | rfl | rfl | rfl | rfl | rfl <;> rfl
def zeroSt:St:=.mk 0 ⟨#[]⟩ ⟨#[]⟩ zeroEx none 0 [] none 0 []
theorem zeroSt_in (w:World):zeroSt.In w :=
 .mk _ (by decide) (Nat.zero_le _) (Nat.zero_le _) (zeroEx_in w) (Nat.zero_le _) (Nat.zero_le _) (fun i x h=>by simp [zeroSt,St.thn] at h) (fun x h=>by simp [zeroSt,St.thn] at h) (Nat.zero_le _) (Nat.zero_le _) (fun i x h=>by simp [zeroSt,St.els] at h) (fun x h=>by simp [zeroSt,St.els] at h)
theorem zeroSt_sz:zeroSt.sz≤1048576:=by decide
def It.ri:It→Ri
 | .num k a b=>⟨k,(a:Int),(b:Int),zeroSt⟩
 | .st a s=>⟨10,a,0,s⟩
theorem It.v_ri (z:It):z.v=.agg z.ri.cs.toArray:=by cases z <;> rfl
/-- It is like an item. -/
structure LikeR (z:It) (r:Ri):Prop where
 k:r.k=z.ri.k
 a:r.a=z.ri.a
 b:r.b=z.ri.b
 kind:r.s.kind=z.ri.s.kind
 head:r.s.head=z.ri.s.head
 name:r.s.name=z.ri.s.name
 e:r.s.e.bare=z.ri.s.e.bare
structure InR (n:Nat) (W:World) (r:Ri):Prop where
 lies:r.s.e.In W
 own:ExO n W r.s.e
theorem InR.keep {n:Nat} {W W':World} {r:Ri} (h:InR n W r) (hk:∀ b cur fz,n≤b→W.heap[b]?=some (.cells cur 45 fz)→W'.heap[b]?=some (.cells cur 45 fz)):InR n W' r:=by
 obtain⟨h1,h2⟩:=exo_keep hk _ h.lies h.own
 exact⟨h1,h2⟩
/-- These are owned: so many, like the first of a list, in memory laid since a block. -/
structure OwR (B:Nat) (W:World) (v:Value) (xs:List It) (l:List Ri):Prop where
 own:W.ownsRow B 49 17 v l.length ((l.map Ri.cs).flatten)
 like:∀ (j:Nat) (z:It) (r:Ri),xs[j]?=some z→l[j]?=some r→LikeR z r
 lies:∀ r ∈ l,InR B W r
theorem own_keep {base:Nat} {e:TypeId} {C n:Nat} {v:Value} {xs:List Value} {W W':World} (h:W.ownsRow base e C v n xs) (hk:∀ b cur,base≤b→W.heap[b]?=some (.cells cur e (0,0))→v.ownBlock=some b→W'.heap[b]?=W.heap[b]?):W'.ownsRow base e C v n xs:=by
 obtain⟨h1,h2⟩:=h
 refine⟨h1,?_⟩
 rcases h2 with h2 | ⟨g,cap,cur,rfl,hg,hh,rest⟩
 ·exact .inl h2
 ·exact .inr ⟨g,cap,cur,rfl,hg,(hk g cur hg hh rfl).trans hh,rest⟩
theorem own_at {base:Nat} {e:TypeId} {C n:Nat} {v:Value} {xs:List Value} {W:World} (h:W.ownsRow base e C v n xs) {b:Nat} (hb:v.ownBlock=some b):base≤b∧∃ cur,W.heap[b]?=some (.cells cur e (0,0)):=by
 rcases h.2 with ⟨rfl,_⟩ | ⟨g,cap,cur,rfl,hg,hh,_⟩
 ·cases hb
 ·simp only [Value.ownBlock,Option.some.injEq] at hb
  subst hb
  exact⟨hg,cur,hh⟩
theorem OwR.ko {B n:Nat} {W W':World} {v:Value} {xs:List It} {l:List Ri} (h:OwR B W v xs l) (hk:Ko n W W'):OwR B W' v xs l :=
 ⟨own_keep h.own fun b _ _ hh _=>(hk.obj b _ hh rfl).trans hh.symm,h.like,fun r hr=>(h.lies r hr).keep fun b _ _ _ hh=>hk.obj b _ hh rfl⟩
theorem OwR.base {B C:Nat} {W:World} {v:Value} {xs:List It} {l:List Ri} (h:OwR B W v xs l) (hc:C≤B):OwR C W v xs l :=
 ⟨by
  obtain⟨h1,h2⟩:=h.own
  refine⟨h1,?_⟩
  rcases h2 with h2 | ⟨g,cap,cur,hv,hg,rest⟩
  ·exact .inl h2
  ·exact .inr ⟨g,cap,cur,hv,Nat.le_trans hc hg,rest⟩,h.like,fun r hr=>⟨(h.lies r hr).lies,(h.lies r hr).own.mono hc⟩⟩
/-- Where no row of expressions turns, nor that of the items. -/
theorem OwR.same {B:Nat} {W W':World} {v:Value} {xs:List It} {l:List Ri} (h:OwR B W v xs l) (T:Nat) (hT:v.ownBlock≠some T) (hE:∀ cur fz,W.heap[T]?≠some (.cells cur 45 fz)) (hk:∀ b,b≠T→b < W.heap.size→W'.heap[b]?=W.heap[b]?):OwR B W' v xs l :=
 ⟨own_keep h.own fun b _ _ hh hb=>hk b (fun e=>hT (e ▸ hb)) (Array.getElem?_eq_some_iff.1 hh).1,h.like,fun r hr=>(h.lies r hr).keep fun b cur fz _ hh=>(hk b (fun e=>hE cur fz (e ▸ hh)) (Array.getElem?_eq_some_iff.1 hh).1).trans hh⟩
theorem KeepsFrom.grown {B:Nat} {W W':World} {row:Option Nat} (h:W.grownBy W' row) (hr:∀ g,row=some g→∃ cur e fz,W.heap[g]?=some (.cells cur e fz)):KeepsFrom B W W' :=
 ⟨h.size,fun k o _ hk ho=>(h.block k (Array.getElem?_eq_some_iff.1 hk).1 (fun e=>by
  obtain⟨cur,t,fz,h2⟩:=hr k e.symm
  rw [hk] at h2
  obtain rfl:=Option.some.inj h2
  cases ho)).trans hk⟩
theorem KeepsOthers.from_cells {g:Nat}:∀ (vs:List Value) (W:World) (o:Nat),KeepsOthers W (cellsFrom g W o vs)
 | [],_,_=>KeepsOthers.refl _
 | v :: vs,W,o=>(KeepsOthers.setCell W ⟨g,o,none⟩ v).trans (KeepsOthers.from_cells vs _ (o+1))
theorem Kq.from_cells {S:Nat→Prop} {g:Nat} (hg:S g):∀ (vs:List Value) (W:World) (o:Nat),Kq S W (cellsFrom g W o vs)
 | [],_,_=>Kq.refl _ _
 | v :: vs,W,o=>(Kq.setCell W ⟨g,o,none⟩ v hg).trans (Kq.from_cells hg vs _ (o+1))
theorem Kq.grown {S:Nat→Prop} {W W':World} {row:Option Nat} (h:W.grownBy W' row) (hr:∀ g,row=some g→S g):Kq S W W' :=
 ⟨h.size,fun a _ hs hv=>(World.cell?_of_block (h.block a.block (World.block_lt_of_cell? W a hv) (fun e=>hs (hr _ e.symm)))).trans hv,fun B hb hB=>(Below.refl B W).grown h hb fun k e=>hB k (hr k e)⟩
theorem from_same {g:Nat} {t:TypeId} {z:Nat × Nat}:∀ (vs cur:List Value) (W:World) (o:Nat),W.heap[g]?=some (.cells cur.toArray t z)→(cellsFrom g W o vs).heap[g]?=some (.cells (setsFrom cur o vs).toArray t z)
 | [],_,_,_,h=>h
 | v :: vs,cur,W,o,h=>by
  refine from_same vs (cur.set o v) _ (o+1) ?_
  obtain⟨hlt,hk⟩:=Array.getElem?_eq_some_iff.1 h
  show (W.heap.modify g _)[g]?=_
  rw [Array.getElem?_eq_getElem (by rw [Array.size_modify];exact hlt),Array.getElem_modify_self,hk]
  simp
theorem cell_lies {U:World} {b j:Nat} {cur:Array Value} {t:TypeId} {z:Nat × Nat} {v:Value} (h:U.heap[b]?=some (.cells cur t z)) (hj:cur[j]?=some v):U.cell? ⟨b,j,none⟩=some v:=by
 simp [World.cell?,h,hj]
section
variable {W:World} {v:Value} {l:List Ri} {ops:Array Oper} {rest:List Oper} {o:Oper} {a:Act} {Q:Exit→Act→World→Prop} {F:Fence} {n B:Nat}
/-- One item, built in place, is appended. -/
theorem ri_one_in (h:W.ownsRow B 49 17 v l.length ((l.map Ri.cs).flatten)) (hB:B≤W.heap.size) (r:Ri) (cs:Array Value) (hc:cs.toList=r.cs) (hgd:o.guard=none) (s x:Operand) (ho:o.op=.call { callee:=.builtin .append,args:=#[s,x],argTypes:=#[36,36] })
  (hs:a.eval s=v) (hx:a.eval x=.slice (some ⟨W.heap.size,0,none⟩) 1 1) (hb:l.length+1≤100000000)
  (k:∀ v' w',w'.ownsRow B 49 17 v' (l++[r]).length (((l++[r]).map Ri.cs).flatten)→(W.alloc (.cells cs 49)).grownBy w' v.ownBlock→wpListIn F n Tryz.prog ops Q rest (a.put o.dst v') w'):wpListIn F n Tryz.prog ops Q (o :: rest) a (W.alloc (.cells cs 49)):=by
 obtain⟨i0,hi0,hi1,hi2,hi3⟩:=info_parts item_info
 refine wpListIn_append_sl hgd s x _ ho B 49 i0 _ 17 216 Tryz.underlying36 hi0 hi1 hi2 hi3 rfl (by decide) v l.length _ hs (ownr_alloc h _) (some ⟨W.heap.size,0,none⟩) 1 1 [r] Ri.cs hx rfl (fun i y hy=>⟨_,rfl,fun j u hu=>?_⟩) (fun y _=>y.cs_len) (fun y _=>y.cs_one)
  (by simp only [maxLen];omega) (by omega) (by simp;omega) fun v' w' h2 h3=>k v' w' (by rw [List.length_append,List.map_append,List.flatten_append];exact h2) h3
 obtain⟨rfl,rfl⟩:i=0∧y=r:=by
  cases i with
  | zero=>exact⟨rfl,by simpa using hy.symm⟩
  | succ i=>simp at hy
 rw [Nat.zero_mul,Addr.add_lit,Addr.add_lit]
 simp only [Nat.zero_add]
 refine (cell_new W cs _ _ j rfl).trans ?_
 rw [← hc] at hu
 simpa using hu
end
end Go.Proofs.YtobhijbncchpiaaGreat

/-
  WHAT IS PROVED HERE: a part of the proof (made narrower and merged by program; the parts: Zt).
-/
import Derived.Test.YtlmhldcebllckaaGreatRows
import Derived.Test.YtlmhldcebllckaaGreatM15
namespace Go.Proofs.YtlmhldcebllckaaGreat
open Go.RowKit Go.Shelf
attribute [local go_sem] Oper.semAt_some
set_option maxRecDepth 100000 in
set_option maxHeartbeats 4000000 in
theorem items_in (v:Array Value) (W:World):CallsIn Fence.wide 0 Tryz.prog 20 #[.agg v] W (fun e w'=>e = .returned (.func (.func 48) #[] #[.pointer (some ⟨W.heap.size,0,none⟩)]) ∧ w' = W.alloc (.cells v 30)):=by
 refine callsIn_of_wp Tryz.func20 rfl trivial ?_ rfl
 simp only [Tryz.ntmps20,List.size_toArray,List.length_cons,List.length_nil,Nat.reduceAdd,Nat.reduceSub,Array.replicate_succ,Array.replicate_zero,List.push_toArray,List.append_toArray,List.nil_append,List.cons_append]
 gi_wp2
 go_ret
 exact ⟨rfl,rfl⟩
abbrev noB:Nat → Prop:=fun _=>False
theorem Boxed.kq1 {W W':World} {l b:Nat} {t:TypeId} {v:Value} (h:Boxed W b t v) (hl:b < l) (k:Kq (fun x=>x = l) W W'):Boxed W' b t v :=
 ((k.low (b + 1) (by have:=h.lt;omega) (fun _ e=>by omega)).block b (by omega)).trans h
theorem Boxed.plus {W:World} {b:Nat} {t:TypeId} {v:Value} (h:Boxed W b t v) (y:Ext):Boxed (plus W y) b t v:=heap_plus h y
theorem at_add (b j:Nat):(⟨b,0,none⟩:Addr).add j = ⟨b,j,none⟩:=by simp [Addr.add];exact fun h=>h.symm
/-- What an item's value looks like. -/
theorem It.shape (z:It):∃ kd a b skd shd snm sop slw slh sll sehd senm shi slo sep sen sec stp stn stc sup sun suc,z.v = .agg #[.int .u8 kd,.int .i64 a,.int .i64 b,.int .u8 skd,.string shd,.string snm,.int .u8 sop,.int .i64 slw,.int .u64 slh,.int .u64 sll,.string sehd,.string senm,.int .i64 shi,.int .i64 slo,.slice sep sen sec,.slice stp stn stc,.slice sup sun suc]:=by
 cases z
 ·exact ⟨_,_,_,_,_,_,_,_,_,_,_,_,_,_,_,_,_,_,_,_,_,_,_,rfl⟩
 ·exact ⟨_,_,_,_,_,_,_,_,_,_,_,_,_,_,_,_,_,_,_,_,_,_,_,rfl⟩
theorem three_boxes (V:World) (c:Array Value) (x y:Value) (t u s:TypeId):∃ W,((V.alloc (.cells c t)).alloc (.cells #[x] u)).alloc (.cells #[y] s) = W ∧ (∃ z,W = plus V z) ∧ (∀ j v,c[j]? = some v → W.cell? ⟨V.heap.size,j,none⟩ = some v) ∧ Boxed W (V.heap.size + 1) u x ∧ Boxed W (V.heap.size + 1 + 1) s y ∧ W.heap.size = V.heap.size + 1 + 1 + 1:=by
 have b2:=(Boxed.new (V.alloc (.cells c t)) u x).alloc (.cells #[y] s)
 have b3:=Boxed.new ((V.alloc (.cells c t)).alloc (.cells #[x] u)) s y
 simp only [World.size_alloc] at b2 b3
 exact ⟨_,rfl,plus_of_below ((((Below.refl _ V).alloc (Nat.le_refl _) _).alloc (by simp) _).alloc (by simp;omega) _),fun j v hj=>cell_alloc (cell_alloc ((cell_new V c t _ j rfl).trans hj) _) _,b2,b3,by simp⟩
theorem sum_le2 {α:Type} (f g:α → Nat):∀ l:List α,(∀ x ∈ l,f x ≤ 2 * g x) → (l.map f).sum ≤ 2 * (l.map g).sum
 | [],_=>by simp
 | x :: l,h=>by
  have h1:=h x (List.mem_cons_self ..)
  have h2:=sum_le2 f g l fun y hy=>h y (List.mem_cons_of_mem _ hy)
  simp only [List.map_cons,List.sum_cons]
  omega
theorem enc_le (a:Int):∀ s:St,(s.enc a).length ≤ s.sz:=fun s=>St.ind (Q:=fun s=>(s.enc a).length ≤ s.sz) (fun s h1 h2=>by
 have e:=St.sz_eq s
 rw [St.enc_eq,List.length_cons,List.length_append,St.encs_len,St.encs_len]
 have q:∀ l:List St,(∀ x ∈ l,(x.enc a).length ≤ x.sz) → (l.map fun s=>(s.enc a).length).sum ≤ (l.map St.sz).sum:=fun l=>by
  induction l with
  | nil=>intro _;simp
  | cons x l ih =>
   intro h
   have h1:=h x (List.mem_cons_self ..)
   have h2:=ih fun y hy=>h y (List.mem_cons_of_mem _ hy)
   simp only [List.map_cons,List.sum_cons]
   omega
 have q1:=q _ h1
 have q2:=q _ h2
 omega) s
theorem encs_le (a:Int) (l:List St):(St.encs a l).length ≤ 2 * (l.map St.sz).sum:=by
 rw [St.encs_len]
 exact sum_le2 _ _ l fun x _=>by have:=enc_le a x;omega
theorem encP_len (p:Pr) (hz:p.sz ≤ 1048576):(encP p).length ≤ 2097152:=by
 unfold Pr.sz Sl.size at hz
 have l1:(e1 p).length = (p.headers.l.map lenH).sum:=flI_len _ _ (fun a x=>encH_len a x) _ _
 have l2:(e2 p).length = (p.metas.l.map fun _=>1).sum:=flI_len (fun a (_:Fd)=>[It.num 3 a 0]) (fun _=>1) (fun _ _=>rfl) _ _
 have l3:(e3 p).length = (p.states.l.map lenS).sum:=flI_len _ _ (fun a x=>encS_len a x) _ _
 have l4:(e4 p).length = (p.actions.l.map lenA).sum:=flI_len _ _ (fun a x=>encA_len a x) _ _
 have l5:(e5 p).length = (p.tables.l.map lenT).sum:=flI_len _ _ (fun a x=>encT_len a x) _ _
 have l6:=encs_le (-1) p.control.l
 have l7:(e7 p).length = (p.emit.l.map fun _=>1).sum:=flI_len (fun a (_:ByteArray)=>[It.num 15 a 0]) (fun _=>1) (fun _ _=>rfl) _ _
 have s1:=sum_le2 lenH Hr.sz p.headers.l fun x _=>by have:=length_le_sum Fd.sz (fun y=>by unfold Fd.sz;omega) x.fields.l;unfold lenH Hr.sz Sl.size;omega
 have s2:=sum_le2 (fun _=>1) Fd.sz p.metas.l fun x _=>by unfold Fd.sz;omega
 have s3:=sum_le2 lenS Sa.sz p.states.l fun x _=>by have:=length_le_sum strSize (fun y=>by unfold strSize;omega) x.takes.l;have:=length_le_sum Ca.sz (fun y=>by unfold Ca.sz;omega) x.cases.l;unfold lenS Sa.sz Sl.size;omega
 have s4:=sum_le2 lenA Ac.sz p.actions.l fun x _=>by have:=length_le_sum Fd.sz (fun y=>by unfold Fd.sz;omega) x.params.l;have:=encs_le 0 x.body.l;unfold lenA Ac.sz Sl.size;omega
 have s5:=sum_le2 lenT Ta.sz p.tables.l fun x _=>by have:=length_le_sum Ke.sz (fun y=>by unfold Ke.sz;omega) x.keys.l;have:=length_le_sum strSize (fun y=>by unfold strSize;omega) x.actions.l;unfold lenT Ta.sz Sl.size;omega
 have s7:=sum_le2 (fun _=>1) strSize p.emit.l fun x _=>by unfold strSize;omega
 unfold encP
 simp only [List.length_append]
 unfold e6
 omega
theorem res_cells (tmps:Array Value) (b c:Nat) (x y:Value) (W:World) (h2:W.cell? ⟨b,0,none⟩ = some x) (h3:W.cell? ⟨c,0,none⟩ = some y) (t2:tmps.getD 2 undef = .pointer (some ⟨b,0,none⟩)) (t3:tmps.getD 3 undef = .pointer (some ⟨c,0,none⟩)) :
  (results Tryz.f7 tmps).run Tryz.prog W = .ok (.tuple #[x,y]) W:=by
 have e1:(isAgg 3).run Tryz.prog W = .ok false W:=by kernel_rfl
 have e2:(isAgg 33).run Tryz.prog W = .ok false W:=by kernel_rfl
 have l2:(load ⟨b,0,none⟩).run Tryz.prog W = .ok x W:=by rw [run_load,h2]
 have l3:(load ⟨c,0,none⟩).run Tryz.prog W = .ok y W:=by rw [run_load,h3]
 simp only [Array.getD_eq_getD_getElem?] at t2 t3
 simp [results,loadVar,t2,t3,asAddr,Sem.run_bind,e1,e2,l2,l3,Result.andThen]
set_option maxRecDepth 100000 in
set_option maxHeartbeats 8000000 in
theorem check_yes (p:Pr) (w:World) (hin:p.In w) (hz:p.sz ≤ 1048576)
  (hmay:Kp Tryz.prog w 19 #[.agg #[.slice p.headers.p p.headers.l.length p.headers.cap,.slice p.metas.p p.metas.l.length p.metas.cap,.slice p.states.p p.states.l.length p.states.cap,.slice p.actions.p p.actions.l.length p.actions.cap,.slice p.tables.p p.tables.l.length p.tables.cap,.slice p.control.p p.control.l.length p.control.cap,.slice p.emit.p p.emit.l.length p.emit.cap]] (.bool true)) :
  Kp Tryz.prog w 7 #[.agg #[.slice p.headers.p p.headers.l.length p.headers.cap,.slice p.metas.p p.metas.l.length p.metas.cap,.slice p.states.p p.states.l.length p.states.cap,.slice p.actions.p p.actions.l.length p.actions.cap,.slice p.tables.p p.tables.l.length p.tables.cap,.slice p.control.p p.control.l.length p.control.cap,.slice p.emit.p p.emit.l.length p.emit.cap]] (.tuple #[.int .i64 ((scanI p (encP p) 0).1:Int),.int .i64 (scanI p (encP p) 0).2]):=by
 intro y0
 have hin:=hin.plus y0
 have hmay:=hmay.up y0
 obtain ⟨V,hV⟩:∃ V,plus w y0 = V:=⟨_,rfl⟩
 rw [hV] at hin hmay ⊢
 clear hV
 have hin':=Lib.hid hin
 have hmay':=Lib.hid hmay
 clear hin hmay
 refine (callsIn_wide (n:=0)).1 ?_
 refine callsIn_of_wp_marks Tryz.func7 rfl trivial ?_ rfl
 simp only [Tryz.ntmps7,List.size_toArray,List.length_cons,List.length_nil,Nat.reduceAdd,Nat.reduceSub,Array.replicate_succ,Array.replicate_zero,List.push_toArray,List.append_toArray,List.nil_append,List.cons_append]
 gi_wp2
 obtain ⟨W3,hW3,⟨z3,hz3⟩,cp,c2,c3,hs3⟩:=three_boxes V _ _ _ 30 3 33
 rw [hW3]
 have qm:=(kp_at hz3 hmay'.out) ⟨#[],W3.drawn⟩
 rw [plus_self] at qm
 have hz3':=Lib.hid hz3
 clear hz3 hW3
 refine ⟨trivial,rfl,CallsIn.mono (callsIn_wide.2 qm) ?_⟩
 rintro e U ⟨rfl,x1,hU⟩
 have hzU:=Lib.hid (show U = plus V _ by rw [hU,hz3'.out,plus_plus])
 have c2:Boxed U _ _ _:=(by rw [hU];exact heap_plus c2 x1)
 have c3:Boxed U _ _ _:=(by rw [hU];exact heap_plus c3 x1)
 have cp:=fun j v hj=>show U.cell? _ = some v by rw [hU];exact cell_keep (cp j v hj) x1
 have hsU:V.heap.size + 1 + 1 + 1 ≤ U.heap.size:=by rw [hU,← hs3];exact size_plus W3 x1
 clear hU hz3' hs3 qm
 obtain ⟨b1,hb1⟩:∃ b,V.heap.size = b:=⟨_,rfl⟩
 rw [hb1] at cp c2 c3 hsU ⊢
 have d0:=fun o:Obj=>cell_alloc (cp 0 _ rfl) o
 have d1:=fun o:Obj=>cell_alloc (cp 1 _ rfl) o
 have d2:=fun o:Obj=>cell_alloc (cp 2 _ rfl) o
 have d3:=fun o:Obj=>cell_alloc (cp 3 _ rfl) o
 have d4:=fun o:Obj=>cell_alloc (cp 4 _ rfl) o
 have d5:=fun o:Obj=>cell_alloc (cp 5 _ rfl) o
 have d6:=fun o:Obj=>cell_alloc (cp 6 _ rfl) o
 have cp':=Lib.hid cp
 have c2':=Lib.hid c2
 have c3':=Lib.hid c3
 clear cp c2 c3
 gi_wp2
 refine ⟨trivial,rfl,CallsIn.mono (items_in _ _) ?_⟩
 rintro e X ⟨rfl,hX⟩
 obtain ⟨c,hc⟩:∃ c,U.heap.size = c:=⟨_,rfl⟩
 have n0:=(Boxed.new U 3 (.int .i64 0)).alloc (.cells #[.slice p.headers.p p.headers.l.length p.headers.cap,.slice p.metas.p p.metas.l.length p.metas.cap,.slice p.states.p p.states.l.length p.states.cap,.slice p.actions.p p.actions.l.length p.actions.cap,.slice p.tables.p p.tables.l.length p.tables.cap,.slice p.control.p p.control.l.length p.control.cap,.slice p.emit.p p.emit.l.length p.emit.cap] 30)
 have hXU:Kq noB U X:=by rw [hX];exact (Kq.alloc noB U _).trans (Kq.alloc noB _ _)
 have hUV:=hzU.out
 have hVX:Below V.heap.size V X:=by
  have h1:Below V.heap.size V U:=by rw [hUV];exact below_plus V _
  exact h1.trans (hXU.low _ (by rw [hb1];omega) (fun _ h=>h.elim))
 have m2:Boxed X (b1 + 1) 3 (.int .i64 0):=by rw [hX];exact (c2'.out.alloc _).alloc _
 have m3:Boxed X (b1 + 1 + 1) 33 (.int .i64 0):=by rw [hX];exact (c3'.out.alloc _).alloc _
 have m4:Boxed X c 3 (.int .i64 0):=by rw [hX,← hc];exact n0
 have mp:∀ j v,p.cells[j]? = some v → X.cell? ⟨b1,j,none⟩ = some v:=fun j v hj=>hXU.cell _ _ (fun h=>h) (cp'.out j v (by simpa [Pr.cells,Sl.v] using hj))
 have mq:∀ j v,p.cells[j]? = some v → X.cell? ⟨c + 1,j,none⟩ = some v:=fun j v hj=>by
  rw [hX,← hc,show U.heap.size + 1 = (U.alloc (.cells #[.int .i64 0] 3)).heap.size by simp]
  exact (cell_new _ _ _ _ j rfl).trans (by simpa [Pr.cells,Sl.v] using hj)
 have hsX:X.heap.size = c + 2:=by rw [hX,← hc];simp
 have hbc:b1 + 3 ≤ c:=by omega
 rw [hc]
 simp only [World.size_alloc,hc]
 obtain ⟨zX,hzX⟩:=plus_of_below hVX
 have hzX':=Lib.hid hzX
 have hinX:p.In X:=by rw [hzX];exact hin'.out.plus zX
 have hinV:=hin'.out
 have hqX:∀ S,Kq S V X:=fun S=>by rw [hzX];exact Kq.plus S V zX
 have hb1X:b1 + 3 ≤ c:=hbc
 have I2:=Lib.hid m2
 have I3:=Lib.hid m3
 have I4:=Lib.hid m4
 have IP:=Lib.hid mp
 have IQ:=Lib.hid mq
 have IV:=Lib.hid hinV
 have IX:=Lib.hid hqX
 have IS:=Lib.hid hsX
 have IB:=Lib.hid hbc
 have IE:=Lib.hid hb1
 clear hX n0 hXU hUV hVX m2 m3 m4 mp mq hsX hbc hb1 cp' c2' c3' hzU d0 d1 d2 d3 d4 d5 d6 hin' hmay' hsU hc hzX hinX hinV hqX hb1X hzX'
 gi_wp2
 refine wpIn_rangeFunc_next (gf:=48) (lb:=#[.pointer (some ⟨c + 1,0,none⟩)]) rfl (enters_of Tryz.func48 (by kernel_rfl) rfl) (encP p) It.v (fun b=>b = b1 + 1 ∨ b = b1 + 1 + 1 ∨ b = c) ?seq rfl
  (fun k W=>Kq (fun b=>(b = b1 + 1 ∨ b = b1 + 1 + 1 ∨ b = c) ∨ c + 2 ≤ b) X W ∧ Boxed W (b1 + 1) 3 (.int .i64 0) ∧ Boxed W (b1 + 1 + 1) 33 (.int .i64 0) ∧ Boxed W c 3 (.int .i64 (k:Int)) ∧ ∀ j y,j < k → (encP p)[j]? = some y → wrI p y = 0)
  (fun W=>Kq (fun b=>(b = b1 + 1 ∨ b = b1 + 1 + 1 ∨ b = c) ∨ c + 2 ≤ b) X W ∧ ∃ (k:Nat) (z:It),(encP p)[k]? = some z ∧ (∀ j y,j < k → (encP p)[j]? = some y → wrI p y = 0) ∧ wrI p z ≠ 0 ∧ Boxed W (b1 + 1) 3 (.int .i64 (k:Int)) ∧ Boxed W (b1 + 1 + 1) 33 (.int .i64 (wrI p z)))
  ?hI ?hIx ?h0 ?round ?done ?stop
 case seq =>
  intro l J Jx W hl hlt hk hJ hN h0
  have hs:=IS.out
  have hb:=IB.out
  have he:=IE.out
  have hsz:=hk.size
  refine items1_in l p (fun b=>(b = b1 + 1 ∨ b = b1 + 1 + 1 ∨ b = c) ∨ b = l) J Jx ⟨hN,hJ⟩ V (fun b h=>?_) IV.out hz (c + 1) W ((IX.out _).trans (hk.mono fun _ h=>.inr h)) (fun b h=>?_) (fun h=>?_) (fun j v hj=>?_) h0
  ·omega
  ·omega
  ·omega
  ·rw [at_add];exact hk.cell _ _ (fun h=>by simp only at h;omega) (IQ.out j v hj)
 case hI =>
  rintro k l W W' hl ⟨h1,h2,h3,h4,h5⟩ hk
  have hs:=IS.out
  have hb:=IB.out
  exact ⟨h1.trans (hk.mono fun _ h=>.inr (by omega)),Boxed.kq1 h2 (by omega) hk,Boxed.kq1 h3 (by omega) hk,Boxed.kq1 h4 (by omega) hk,h5⟩
 case hIx =>
  rintro l W W' hl ⟨h1,k,z,h2,h3,h4,h5,h6⟩ hk
  have hs:=IS.out
  have hb:=IB.out
  exact ⟨h1.trans (hk.mono fun _ h=>.inr (by omega)),k,z,h2,h3,h4,Boxed.kq1 h5 (by omega) hk,Boxed.kq1 h6 (by omega) hk⟩
 case h0=>exact ⟨Kq.refl _ _,I2.out,I3.out,I4.out,fun j y h=>absurd h (Nat.not_lt_zero j)⟩
 case round =>
  rintro l k z W hl hlt hx ⟨h1,h2,h3,h4,h5⟩
  obtain ⟨kd,a,b,skd,shd,snm,sop,slw,slh,sll,sehd,senm,shi,slo,sep,sen,sec,stp,stn,stc,sup,sun,suc,hzv⟩:=z.shape
  rw [hzv]
  gi_wp2
  refine ⟨(KeepsOthers.alloc _ _).from _,Kq.alloc _ _ _,fun W2 hk2 hs2=>?_⟩
  have hs:=IS.out
  have hb:=IB.out
  have he:=IE.out
  have hne:W.heap.size ≠ l:=by omega
  have i0:=hk2.cell ⟨W.heap.size,0,none⟩ _ (fun h=>hne h) ((cell_new W _ _ _ 0 rfl).trans rfl)
  have i1:=hk2.cell ⟨W.heap.size,1,none⟩ _ (fun h=>hne h) ((cell_new W _ _ _ 1 rfl).trans rfl)
  have i2:=hk2.cell ⟨W.heap.size,2,none⟩ _ (fun h=>hne h) ((cell_new W _ _ _ 2 rfl).trans rfl)
  have i3:=hk2.cell ⟨W.heap.size,3,none⟩ _ (fun h=>hne h) ((cell_new W _ _ _ 3 rfl).trans rfl)
  have i4:=hk2.cell ⟨W.heap.size,4,none⟩ _ (fun h=>hne h) ((cell_new W _ _ _ 4 rfl).trans rfl)
  have i5:=hk2.cell ⟨W.heap.size,5,none⟩ _ (fun h=>hne h) ((cell_new W _ _ _ 5 rfl).trans rfl)
  have i6:=hk2.cell ⟨W.heap.size,6,none⟩ _ (fun h=>hne h) ((cell_new W _ _ _ 6 rfl).trans rfl)
  have i7:=hk2.cell ⟨W.heap.size,7,none⟩ _ (fun h=>hne h) ((cell_new W _ _ _ 7 rfl).trans rfl)
  have i8:=hk2.cell ⟨W.heap.size,8,none⟩ _ (fun h=>hne h) ((cell_new W _ _ _ 8 rfl).trans rfl)
  have i9:=hk2.cell ⟨W.heap.size,9,none⟩ _ (fun h=>hne h) ((cell_new W _ _ _ 9 rfl).trans rfl)
  have i10:=hk2.cell ⟨W.heap.size,10,none⟩ _ (fun h=>hne h) ((cell_new W _ _ _ 10 rfl).trans rfl)
  have i11:=hk2.cell ⟨W.heap.size,11,none⟩ _ (fun h=>hne h) ((cell_new W _ _ _ 11 rfl).trans rfl)
  have i12:=hk2.cell ⟨W.heap.size,12,none⟩ _ (fun h=>hne h) ((cell_new W _ _ _ 12 rfl).trans rfl)
  have i13:=hk2.cell ⟨W.heap.size,13,none⟩ _ (fun h=>hne h) ((cell_new W _ _ _ 13 rfl).trans rfl)
  have i14:=hk2.cell ⟨W.heap.size,14,none⟩ _ (fun h=>hne h) ((cell_new W _ _ _ 14 rfl).trans rfl)
  have i15:=hk2.cell ⟨W.heap.size,15,none⟩ _ (fun h=>hne h) ((cell_new W _ _ _ 15 rfl).trans rfl)
  have i16:=hk2.cell ⟨W.heap.size,16,none⟩ _ (fun h=>hne h) ((cell_new W _ _ _ 16 rfl).trans rfl)
  have d0:=hk2.cell ⟨b1,0,none⟩ _ (fun h=>by simp only at h;omega) (cell_alloc (h1.cell ⟨b1,0,none⟩ _ (fun h=>by simp only at h;omega) (IP.out 0 _ rfl)) _)
  have d1:=hk2.cell ⟨b1,1,none⟩ _ (fun h=>by simp only at h;omega) (cell_alloc (h1.cell ⟨b1,1,none⟩ _ (fun h=>by simp only at h;omega) (IP.out 1 _ rfl)) _)
  have d2:=hk2.cell ⟨b1,2,none⟩ _ (fun h=>by simp only at h;omega) (cell_alloc (h1.cell ⟨b1,2,none⟩ _ (fun h=>by simp only at h;omega) (IP.out 2 _ rfl)) _)
  have d3:=hk2.cell ⟨b1,3,none⟩ _ (fun h=>by simp only at h;omega) (cell_alloc (h1.cell ⟨b1,3,none⟩ _ (fun h=>by simp only at h;omega) (IP.out 3 _ rfl)) _)
  have d4:=hk2.cell ⟨b1,4,none⟩ _ (fun h=>by simp only at h;omega) (cell_alloc (h1.cell ⟨b1,4,none⟩ _ (fun h=>by simp only at h;omega) (IP.out 4 _ rfl)) _)
  have d5:=hk2.cell ⟨b1,5,none⟩ _ (fun h=>by simp only at h;omega) (cell_alloc (h1.cell ⟨b1,5,none⟩ _ (fun h=>by simp only at h;omega) (IP.out 5 _ rfl)) _)
  have d6:=hk2.cell ⟨b1,6,none⟩ _ (fun h=>by simp only at h;omega) (cell_alloc (h1.cell ⟨b1,6,none⟩ _ (fun h=>by simp only at h;omega) (IP.out 6 _ rfl)) _)
  have hVW:Kq (fun b=>(b = b1 + 1 ∨ b = b1 + 1 + 1 ∨ b = c) ∨ c + 2 ≤ b) V W2:=(((IX.out _).trans h1).trans (Kq.alloc _ _ _)).trans (hk2.mono fun _ h=>.inr (by omega))
  have hin2:p.In W2:=kq_pr hVW (fun b h=>by omega) IV.out
  have hmem:=List.mem_of_getElem? hx
  have hw:=wrong_in p W2 hin2 hz z (enc_ok p W2 hin2 hz z hmem) (safe_next p k z hx h5) ⟨#[],W2.drawn⟩
  rw [plus_self,hzv] at hw
  have m2:=Boxed.kq1 (Boxed.alloc h2 _) (by omega) hk2
  have m3:=Boxed.kq1 (Boxed.alloc h3 _) (by omega) hk2
  have m4:=Boxed.kq1 (Boxed.alloc h4 _) (by omega) hk2
  have h1':=Lib.hid (((h1.trans (Kq.alloc _ _ _)).trans (hk2.mono fun _ h=>.inr (by omega))))
  have hw':=Lib.hid hw
  have h5':=Lib.hid h5
  have hx':=Lib.hid hx
  clear hw hVW hin2 hmem h1 h2 h3 h4 h5 hx hk2 hs2 hzv hne
  have hkl:=(List.getElem?_eq_some_iff.1 hx'.out).1
  have hkb:=encP_len p hz
  obtain ⟨e,hev⟩:∃ e,wrI p z = e:=⟨_,rfl⟩
  rw [hev] at hw'
  have hev':=Lib.hid hev
  clear hev
  gi_wp2
  refine ⟨trivial,rfl,CallsIn.mono (CallsIn.inRound l (callsIn_wide.2 hw'.out)) ?_⟩
  rintro e' W3 ⟨rfl,x3,hW3⟩
  have n2:Boxed W3 _ _ _:=(by rw [hW3];exact Boxed.plus m2 x3)
  have n3:Boxed W3 _ _ _:=(by rw [hW3];exact Boxed.plus m3 x3)
  have n4:Boxed W3 _ _ _:=(by rw [hW3];exact Boxed.plus m4 x3)
  have k1:∀ T,Kq T W2 W3:=fun T=>by rw [hW3];exact Kq.plus T W2 x3
  have k2:KeepsFrom X.heap.size W2 W3:=by rw [hW3];exact ⟨size_plus W2 x3,fun i o _ h _=>heap_plus h x3⟩
  have k3:=Lib.hid (h1'.out.trans (k1 _))
  have k1':=Lib.hid k1
  have k2':=Lib.hid k2
  have c4:=n4.cell
  have f4:=n4.frozen
  have c2:=n2.cell
  have f2:=n2.frozen
  have c3:=n3.cell
  have f3:=n3.frozen
  have N2:=Lib.hid n2
  have N3:=Lib.hid n3
  have N4:=Lib.hid n4
  clear n2 n3 n4 k1 k2 hW3 m2 m3 m4 i0 i1 i2 i3 i4 i5 i6 i7 i8 i9 i10 i11 i12 i13 i14 i15 i16 d0 d1 d2 d3 d4 d5 d6
  by_cases hz0:e = 0
  ·subst hz0
   gi_wp2
   refine ⟨k2'.out.trans ((KeepsOthers.setCell _ _ _).from _),(k1'.out _).trans (Kq.setCell _ _ _ (.inr (.inr rfl))),k3.out.trans (Kq.setCell _ _ _ (.inl (.inr (.inr rfl)))),Boxed.other N2.out (by omega) _,Boxed.other N3.out (by omega) _,?_,fun j y hj hy=>?_⟩
   ·have:=Boxed.set (.int .i64 ((k + 1:Nat):Int)) N4.out
    rw [show ((k:Int) + 1) = ((k + 1:Nat):Int) by omega]
    exact this
   ·by_cases hjk:j < k
    ·exact h5'.out j y hjk hy
    ·obtain rfl:j = k:=by omega
     rw [hx'.out] at hy
     obtain rfl:=Option.some.inj hy
     exact hev'.out
  ·have g0:(e == 0) = false:=by simpa using hz0
   gi_wp2
   refine ⟨k2'.out.trans (((KeepsOthers.setCell _ _ _).from _).trans ((KeepsOthers.setCell _ _ _).from _)),(k3.out.trans (Kq.setCell _ _ _ (.inl (.inl rfl)))).trans (Kq.setCell _ _ _ (.inl (.inr (.inl rfl)))),k,z,hx'.out,h5'.out,by rw [hev'.out];exact hz0,Boxed.other (Boxed.set _ N2.out) (by omega) _,?_⟩
   rw [hev'.out]
   exact Boxed.set _ (Boxed.other N3.out (by omega) _)
 case done =>
  rintro D W hD ⟨h1,h2,h3,h4,h5⟩ hK
  have c4:=h4.cell
  have c2:=h2.cell
  have f2:=h2.frozen
  have c3:=h3.cell
  have f3:=h3.frozen
  have hs:=IS.out
  have hb:=IB.out
  have he:=IE.out
  have hsc:=Lib.hid (scan_none p (encP p) 0 h5)
  gi_wp2
  have m2:=Boxed.other (Boxed.set (.int .i64 ((encP p).length:Int)) h2) (show b1 + 1 ≠ b1 + 1 + 1 by omega) (.int .i64 0)
  have m3:=Boxed.set (.int .i64 0) (Boxed.other h3 (show b1 + 1 + 1 ≠ b1 + 1 by omega) (.int .i64 ((encP p).length:Int)))
  have hK':((W.setCell ⟨b1 + 1,0,none⟩ (.int .i64 ((encP p).length:Int))).setCell ⟨b1 + 1 + 1,0,none⟩ (.int .i64 0)).heap[D]? = some (.deferred (some [])):=by
   rw [Below.heap_setCell _ _ _ _ (by simp only;omega),Below.heap_setCell _ _ _ _ (by simp only;omega)]
   exact hK
  have kq:=(((IX.out _).trans h1).trans (Kq.setCell _ ⟨b1 + 1,0,none⟩ (.int .i64 ((encP p).length:Int)) (.inl (.inl rfl)))).trans (Kq.setCell _ ⟨b1 + 1 + 1,0,none⟩ (.int .i64 0) (.inl (.inr (.inl rfl))))
  refine ⟨by simp,.inl ⟨_,_,rfl,run_takeDeferred hK',?_⟩⟩
  refine ⟨_,res_cells _ (b1 + 1) (b1 + 1 + 1) _ _ _ ((cell_putObj hK' rfl rfl _).trans m2.cell) ((cell_putObj hK' rfl rfl _).trans m3.cell) rfl rfl,?_,?_⟩
  ·rw [hsc.out,Nat.zero_add]
  ·exact plus_of_below ((kq.trans (Kq.putObj _ hK' rfl rfl (.inr (by omega)))).low _ (Nat.le_refl _) (fun b h=>by omega))
 case stop =>
  rintro D W hD ⟨h1,k,z,h2,h3,h4,h5,h6⟩ hK
  have hs:=IS.out
  have hb:=IB.out
  have he:=IE.out
  have hsc:=Lib.hid (scan_some p (encP p) 0 k z h2 h3 h4)
  gi_wp2
  refine ⟨by simp,.inl ⟨_,_,rfl,run_takeDeferred hK,?_⟩⟩
  refine ⟨_,res_cells _ (b1 + 1) (b1 + 1 + 1) _ _ _ ((cell_putObj hK rfl rfl _).trans h5.cell) ((cell_putObj hK rfl rfl _).trans h6.cell) rfl rfl,?_,?_⟩
  ·rw [hsc.out,Nat.zero_add]
  ·exact plus_of_below ((((IX.out _).trans h1).trans (Kq.putObj _ hK rfl rfl (.inr (by omega)))).low _ (Nat.le_refl _) (fun b h=>by omega))
end Go.Proofs.YtlmhldcebllckaaGreat

/-
  WHAT IS PROVED HERE: a part of the proof (made narrower and merged by program; the parts: Dv).
-/
import Derived.Test.YtobhijbncchpiaaGreatM32
namespace Go.Proofs.YtobhijbncchpiaaGreat
open Go.RowKit Go.Shelf
attribute [local go_sem] Oper.semAt_some
theorem res_one (tmps:Array Value) (x:Value) (W:World) (t2:tmps.getD 2 undef=x):(results Tryz.f20 tmps).run Tryz.prog W=.ok x W:=by
 simp only [Array.getD_eq_getD_getElem?] at t2
 simp [results,Tryz.results20,loadVar,t2]
set_option maxRecDepth 100000 in
set_option maxHeartbeats 16000000 in
theorem q_Items (p:Pr) (w:World) (hin:p.In w) (hz:p.sz≤1048576):Calls Tryz.prog 20 #[.agg #[.slice p.headers.p p.headers.l.length p.headers.cap,.slice p.metas.p p.metas.l.length p.metas.cap,.slice p.states.p p.states.l.length p.states.cap,.slice p.actions.p p.actions.l.length p.actions.cap,.slice p.tables.p p.tables.l.length p.tables.cap,.slice p.control.p p.control.l.length p.control.cap,.slice p.emit.p p.emit.l.length p.emit.cap]] w fun e w'=>∃ (v:Value) (l:List Ri),e=.returned v∧(∃ x,w'=plus w x)∧l.length=(encP p).length∧OwR w.heap.size w' v (encP p) l:=by
 have hin':=Lib.hid hin
 clear hin
 refine (callsIn_wide (n:=0)).1 ?_
 refine callsIn_of_wp_marks Tryz.func20 rfl trivial ?_ rfl
 simp only [Tryz.ntmps20,List.size_toArray,List.length_cons,List.length_nil,Nat.reduceAdd,Nat.reduceSub,Array.replicate_succ,Array.replicate_zero,List.push_toArray,List.append_toArray,List.nil_append,List.cons_append]
 gi_wp2
 refine⟨trivial,rfl,CallsIn.mono (items_in _ _) ?_⟩
 rintro e X ⟨rfl,hX⟩
 obtain⟨b1,hb1⟩:∃ b,w.heap.size=b:=⟨_,rfl⟩
 have hU:((w.alloc (.cells #[.slice p.headers.p p.headers.l.length p.headers.cap,.slice p.metas.p p.metas.l.length p.metas.cap,.slice p.states.p p.states.l.length p.states.cap,.slice p.actions.p p.actions.l.length p.actions.cap,.slice p.tables.p p.tables.l.length p.tables.cap,.slice p.control.p p.control.l.length p.control.cap,.slice p.emit.p p.emit.l.length p.emit.cap] 30)).alloc (.cells #[.slice none 0 0] 36)).heap.size=b1+2:=by simp [hb1]
 have hsX:X.heap.size=b1+3:=by rw [hX,World.size_alloc,hU]
 have mc:Boxed X (b1+1) 36 (.slice none 0 0):=by
  rw [hX]
  refine Boxed.alloc ?_ _
  have:=Boxed.new (w.alloc (.cells #[.slice p.headers.p p.headers.l.length p.headers.cap,.slice p.metas.p p.metas.l.length p.metas.cap,.slice p.states.p p.states.l.length p.states.cap,.slice p.actions.p p.actions.l.length p.actions.cap,.slice p.tables.p p.tables.l.length p.tables.cap,.slice p.control.p p.control.l.length p.control.cap,.slice p.emit.p p.emit.l.length p.emit.cap] 30)) 36 (.slice none 0 0)
  rwa [World.size_alloc,hb1] at this
 have mq:∀ j v,p.cells[j]?=some v→X.cell? ⟨b1+2,j,none⟩=some v:=fun j v hj=>by
  rw [hX,← hU]
  exact (cell_new _ _ _ _ j rfl).trans (by simpa [Pr.cells,Sl.v] using hj)
 have hKr:∀ S,Kr S w X:=fun S=>by rw [hX];exact ((Kr.alloc S w _).trans (Kr.alloc S _ _)).trans (Kr.alloc S _ _)
 have hBX:Below w.heap.size w X:=by rw [hX];exact (((Below.refl w.heap.size w).alloc (Nat.le_refl _) _).alloc (by simp) _).alloc (by simp;omega) _
 have IC:=Lib.hid mc
 have IQ:=Lib.hid mq
 have IK:=Lib.hid hKr
 have IB:=Lib.hid hBX
 have IX:=Lib.hid hsX
 rw [hU,hb1]
 have Ib:=Lib.hid hb1
 clear hX hU hsX mc mq hKr hBX hb1
 gi_wp2
 refine wpIn_rangeFunc_rows (gf:=66) (lb:=#[.pointer (some ⟨b1+2,0,none⟩)]) rfl (enters_of Tryz.func66 (by kernel_rfl) rfl) (encP p) It.v ⟨fun b=>b=b1+1,b1+3⟩ ?seq rfl
  (fun k W=>Kq (fun b=>b=b1+1∨b1+3≤b) X W∧∃ (v:Value) (l:List Ri),Boxed W (b1+1) 36 v∧OwR (b1+3) W v (encP p) l∧l.length=k)
  (fun _=>False)
  ?hI ?hIx ?h0 ?round ?done ?stop
 case seq =>
  intro l J Jx W hl hlt hk hJ hN h0
  have hs:=IX.out
  have hb:=Ib.out
  have hsz:=(hk ⟨fun _=>False,0⟩).size
  refine (items1_inR l p (Bx.add ⟨fun b=>b=b1+1,b1+3⟩ l) J Jx ⟨hN,hJ⟩ w ⟨by show w.heap.size≤b1+3;omega,fun b h=>?_⟩ hin'.out hz (b1+2) W ((IK.out _).trans (hk _)) (fun b h=>?_) (fun h=>?_) (fun j v hj=>?_) h0)
  ·rcases h with h | h
   ·omega
   ·omega
  ·rcases h with h | h
   ·omega
   ·omega
  ·rcases h with (h | h) | ⟨h,_⟩
   ·omega
   ·omega
   ·have:b1+3≤b1+2:=h
    omega
  ·rw [at_add]
   exact (hk ⟨fun _=>False,b1+3⟩).cell _ _ (fun h=>by
    rcases h with h | ⟨h,_⟩
    ·exact h
    ·have:b1+3≤b1+2:=h
     omega) (IQ.out j v hj)
 case hI =>
  rintro k W W' ⟨h1,v,l,h2,h3,h4⟩ hk
  have hs:=IX.out
  exact⟨h1.trans (hk.kq.mono fun b h=>.inr (by omega)),v,l,hk.obj _ _ h2 rfl,h3.ko hk,h4⟩
 case hIx=>exact fun _ _ h _=>h
 case h0=>exact⟨Kq.refl _ _,.slice none 0 0,[],IC.out,⟨World.ownsRow_nil _ _ _ _,fun j z r _ h=>by simp at h,fun r h=>(by cases h)⟩,rfl⟩
 case round =>
  rintro l k z W hl hlt hx ⟨h1,v,l',h2,h3,h4⟩
  obtain⟨r0,hr0⟩:∃ r,z.ri=r:=⟨_,rfl⟩
  have hv:=z.v_ri
  have hlike:∀ r:Ri,r.k=r0.k→r.a=r0.a→r.b=r0.b→r.s.kind=r0.s.kind→r.s.head=r0.s.head→r.s.name=r0.s.name→r.s.e.bare=r0.s.e.bare→LikeR z r:=fun r a b c d e f g=>⟨hr0 ▸ a,hr0 ▸ b,hr0 ▸ c,hr0 ▸ d,hr0 ▸ e,hr0 ▸ f,hr0 ▸ g⟩
  have hin2:∀ W2,Kq (fun b=>b=b1+1∨b1+3≤b) X W2→r0.s.In W2∧r0.s.sz≤1048576:=fun W2 hk=>by
   rw [← hr0]
   obtain⟨y,hy⟩:=plus_of_below IB.out
   have hp:p.In W2:=kq_pr (S:=fun b=>b1≤b) ((show Kq (fun b=>b1≤b) w X by rw [hy];exact Kq.plus _ w y).trans (hk.mono fun b h=>by omega)) (fun b h=>by have:=Ib.out;omega) hin'.out
   have hok:=enc_ok p W2 hp hz z (List.mem_of_getElem? hx)
   cases hok with
   | stmt a s hs hsz=>exact⟨hs,hsz⟩
   | _=>exact⟨zeroSt_in W2,zeroSt_sz⟩
  rw [hr0] at hv
  obtain⟨kd,a,b0,⟨skd,shd,snm,⟨sop,⟨slw,slh,sll⟩,sehd,senm,shi,slo,sep,sec,sargs⟩,stp,stc,sthn,sup,suc,sels⟩⟩:=r0
  have hv:z.v=.agg #[.int .u8 kd,.int .i64 a,.int .i64 b0,.int .u8 skd,.string shd,.string snm,.int .u8 sop,.int .i64 slw,.int .u64 slh,.int .u64 sll,.string sehd,.string senm,.int .i64 shi,.int .i64 slo,.slice sep sargs.length sec,.slice stp sthn.length stc,.slice sup sels.length suc]:=hv
  obtain⟨sen,hsen⟩:∃ n,sargs.length=n:=⟨_,rfl⟩
  obtain⟨stn,hstn⟩:∃ n,sthn.length=n:=⟨_,rfl⟩
  obtain⟨sun,hsun⟩:∃ n,sels.length=n:=⟨_,rfl⟩
  rw [hsen,hstn,hsun] at hv
  rw [hv]
  gi_wp2
  refine⟨(KeepsOthers.alloc _ _).from _,Kr.alloc _ _ _,fun W2 hk2 hs2=>?_⟩
  have hq2:Kq (fun b=>b=b1+1∨b1+3≤b) X W2:=(h1.trans (Kq.alloc _ _ _)).trans (hk2.kq.mono fun b h=>.inr (by have:=IX.out;omega))
  have hT:=hk2.obj _ _ (World.alloc_heap_new W _) rfl
  have h3':=(h3.ko (n:=X.heap.size) (Ko.alloc h1.size (.cells #[.int .u8 kd,.int .i64 a,.int .i64 b0,.int .u8 skd,.string shd,.string snm,.int .u8 sop,.int .i64 slw,.int .u64 slh,.int .u64 sll,.string sehd,.string senm,.int .i64 shi,.int .i64 slo,.slice sep sen sec,.slice stp stn stc,.slice sup sun suc] 49))).ko hk2
  have h2':=hk2.obj _ _ (Boxed.alloc h2 (.cells #[.int .u8 kd,.int .i64 a,.int .i64 b0,.int .u8 skd,.string shd,.string snm,.int .u8 sop,.int .i64 slw,.int .u64 slh,.int .u64 sll,.string sehd,.string senm,.int .i64 shi,.int .i64 slo,.slice sep sen sec,.slice stp stn stc,.slice sup sun suc] 49)) rfl
  have hTge:X.heap.size≤W.heap.size:=h1.size
  have hnT:v.ownBlock≠some W.heap.size:=fun e=>by
   obtain⟨_,cur,hh⟩:=own_at h3.own e
   have:=(Array.getElem?_eq_some_iff.1 hh).1
   omega
  obtain⟨hi2,hz2⟩:=hin2 W2 hq2
  have hc:=copied_st _ W2 hi2 hz2
  have hkl:=(List.getElem?_eq_some_iff.1 hx).1
  have hkb:=encP_len p hz
  have HB:=Lib.hid (show l'.length+1≤100000000 by omega)
  have HX:=Lib.hid hx
  clear hin2 hi2 hz2 h1 h2 h3 hx hv hk2 hkl hkb
  simp only [St.cells,St.kind,St.head,St.name,St.e,St.p,St.cap,St.thn,St.q,St.cbp,St.els,Ex.op,Ex.lit,Ex.head,Ex.name,Ex.hi,Ex.lo,Ex.p,Ex.args,Ex.cap,hsen,hstn,hsun] at hc hlike
  obtain⟨T,hTT⟩:∃ T,W.heap.size=T:=⟨_,rfl⟩
  rw [hTT] at hT hTge hnT ⊢
  have HN:=Lib.hid hnT
  have i0:W2.cell? ⟨T,0,none⟩=some (.int .u8 kd):=cell_lies hT rfl
  have i1:W2.cell? ⟨T,1,none⟩=some (.int .i64 a):=cell_lies hT rfl
  have i2:W2.cell? ⟨T,2,none⟩=some (.int .i64 b0):=cell_lies hT rfl
  have i3:W2.cell? ⟨T,3,none⟩=some (.int .u8 skd):=cell_lies hT rfl
  have i4:W2.cell? ⟨T,4,none⟩=some (.string shd):=cell_lies hT rfl
  have i5:W2.cell? ⟨T,5,none⟩=some (.string snm):=cell_lies hT rfl
  have i6:W2.cell? ⟨T,6,none⟩=some (.int .u8 sop):=cell_lies hT rfl
  have i7:W2.cell? ⟨T,7,none⟩=some (.int .i64 slw):=cell_lies hT rfl
  have i8:W2.cell? ⟨T,8,none⟩=some (.int .u64 slh):=cell_lies hT rfl
  have i9:W2.cell? ⟨T,9,none⟩=some (.int .u64 sll):=cell_lies hT rfl
  have i10:W2.cell? ⟨T,10,none⟩=some (.string sehd):=cell_lies hT rfl
  have i11:W2.cell? ⟨T,11,none⟩=some (.string senm):=cell_lies hT rfl
  have i12:W2.cell? ⟨T,12,none⟩=some (.int .i64 shi):=cell_lies hT rfl
  have i13:W2.cell? ⟨T,13,none⟩=some (.int .i64 slo):=cell_lies hT rfl
  have i14:W2.cell? ⟨T,14,none⟩=some (.slice sep sen sec):=cell_lies hT rfl
  have i15:W2.cell? ⟨T,15,none⟩=some (.slice stp stn stc):=cell_lies hT rfl
  have i16:W2.cell? ⟨T,16,none⟩=some (.slice sup sun suc):=cell_lies hT rfl
  have hc':=Lib.hid hc
  have hlike':=Lib.hid hlike
  have hT':=Lib.hid hT
  have H2:=Lib.hid h2'
  have H3:=Lib.hid h3'
  have HT:=Lib.hid hTge
  have HQ:=Lib.hid hq2
  have HS:=Lib.hid (show W2.heap.size=T+1 by have q:=hs2;(try simp only [World.size_alloc] at q);omega)
  clear hc hlike hT h2' h3' hTge hTT hq2 hs2 hnT
  have HL:=Lib.hid h4
  clear h4
  gi_wp2
  refine⟨trivial,rfl,CallsIn.mono (CallsIn.inRound l (callsIn_wide.2 hc'.out)) ?_⟩
  rintro E W3 ⟨⟨op2,⟨lw2,lh2,ll2⟩,ehd2,enm2,eh2,el2,ep2,ec2,args2⟩,q2,d2,r2,f2,rfl,⟨x3,hW3⟩,hin3,ho3,hb3⟩
  obtain⟨en2,hen2⟩:∃ n,args2.length=n:=⟨_,rfl⟩
  simp only [hen2]
  have hT3:W3.heap[T]?=some (.cells #[.int .u8 kd,.int .i64 a,.int .i64 b0,.int .u8 skd,.string shd,.string snm,.int .u8 sop,.int .i64 slw,.int .u64 slh,.int .u64 sll,.string sehd,.string senm,.int .i64 shi,.int .i64 slo,.slice sep sen sec,.slice stp stn stc,.slice sup sun suc] 49 (0,0)):=by rw [hW3];exact heap_plus hT'.out x3
  have j3:W3.cell? ⟨T,3,none⟩=some (.int .u8 skd):=cell_lies hT3 rfl
  have j4:W3.cell? ⟨T,4,none⟩=some (.string shd):=cell_lies hT3 rfl
  have j5:W3.cell? ⟨T,5,none⟩=some (.string snm):=cell_lies hT3 rfl
  have j6:W3.cell? ⟨T,6,none⟩=some (.int .u8 sop):=cell_lies hT3 rfl
  have j7:W3.cell? ⟨T,7,none⟩=some (.int .i64 slw):=cell_lies hT3 rfl
  have j8:W3.cell? ⟨T,8,none⟩=some (.int .u64 slh):=cell_lies hT3 rfl
  have j9:W3.cell? ⟨T,9,none⟩=some (.int .u64 sll):=cell_lies hT3 rfl
  have j10:W3.cell? ⟨T,10,none⟩=some (.string sehd):=cell_lies hT3 rfl
  have j11:W3.cell? ⟨T,11,none⟩=some (.string senm):=cell_lies hT3 rfl
  have j12:W3.cell? ⟨T,12,none⟩=some (.int .i64 shi):=cell_lies hT3 rfl
  have j13:W3.cell? ⟨T,13,none⟩=some (.int .i64 slo):=cell_lies hT3 rfl
  have j14:W3.cell? ⟨T,14,none⟩=some (.slice sep sen sec):=cell_lies hT3 rfl
  have j15:W3.cell? ⟨T,15,none⟩=some (.slice stp stn stc):=cell_lies hT3 rfl
  have j16:W3.cell? ⟨T,16,none⟩=some (.slice sup sun suc):=cell_lies hT3 rfl
  have f3:=fun o=>frozen_of_row W3 T o _ _ hT3
  have hE3:∀ cur fz,W3.heap[T]?≠some (.cells cur 45 fz):=fun cur fz e=>by
   rw [hT3] at e
   simp only [Option.some.injEq,Obj.cells.injEq] at e
   exact absurd e.2.1 (by decide)
  have hX3:X.heap.size≤W2.heap.size:=by have:=HT.out;have:=HS.out;omega
  have hO3:=H3.out.ko (n:=X.heap.size) (Ko.plus hX3 x3)
  rw [← hW3] at hO3
  have hi3:InR (b1+3) W3 ⟨kd,a,b0,.mk skd shd snm (.mk op2 ⟨lw2,lh2,ll2⟩ ehd2 enm2 eh2 el2 ep2 ec2 args2) q2 d2 sthn r2 f2 sels⟩:=⟨hin3,ExO.mono (by have:=IX.out;omega) ho3⟩
  have hc3:Boxed W3 (b1+1) 36 v:=by rw [hW3];exact heap_plus H2.out x3
  have hk3:KeepsFrom X.heap.size W2 W3:=by rw [hW3];exact⟨size_plus W2 x3,fun i o _ h _=>heap_plus h x3⟩
  have hr3:Kr ⟨fun b=>b=b1+1,b1+3⟩ W2 W3:=by rw [hW3];exact Kr.plus _ W2 x3
  have hq3:Kq (fun b=>b=b1+1∨b1+3≤b) X W3:=by rw [hW3];exact HQ.out.trans (Kq.plus _ W2 x3)
  have hs3:W2.heap.size≤W3.heap.size:=by rw [hW3];exact size_plus W2 x3
  have hbT:b1+3≤T:=by have:=HT.out;have:=IX.out;omega
  obtain⟨U,hU⟩:∃ U,((((((((((((((W3).setCell ⟨T,3,none⟩ (.int .u8 skd)).setCell ⟨T,4,none⟩ (.string shd)).setCell ⟨T,5,none⟩ (.string snm)).setCell ⟨T,6,none⟩ (.int .u8 op2)).setCell ⟨T,7,none⟩ (.int .i64 lw2)).setCell ⟨T,8,none⟩ (.int .u64 lh2)).setCell ⟨T,9,none⟩ (.int .u64 ll2)).setCell ⟨T,10,none⟩ (.string ehd2)).setCell ⟨T,11,none⟩ (.string enm2)).setCell ⟨T,12,none⟩ (.int .i64 eh2)).setCell ⟨T,13,none⟩ (.int .i64 el2)).setCell ⟨T,14,none⟩ (.slice ep2 en2 ec2)).setCell ⟨T,15,none⟩ (.slice q2 stn d2)).setCell ⟨T,16,none⟩ (.slice r2 sun f2)=U:=⟨_,rfl⟩
  have hV:cellsFrom T W3 3 [.int .u8 skd,.string shd,.string snm,.int .u8 op2,.int .i64 lw2,.int .u64 lh2,.int .u64 ll2,.string ehd2,.string enm2,.int .i64 eh2,.int .i64 el2,.slice ep2 en2 ec2,.slice q2 stn d2,.slice r2 sun f2]=U:=hU
  have hTU:U.heap[T]?=some (.cells #[.int .u8 kd,.int .i64 a,.int .i64 b0,.int .u8 skd,.string shd,.string snm,.int .u8 op2,.int .i64 lw2,.int .u64 lh2,.int .u64 ll2,.string ehd2,.string enm2,.int .i64 eh2,.int .i64 el2,.slice ep2 en2 ec2,.slice q2 stn d2,.slice r2 sun f2] 49 (0,0)):=by rw [← hV];exact from_same [.int .u8 skd,.string shd,.string snm,.int .u8 op2,.int .i64 lw2,.int .u64 lh2,.int .u64 ll2,.string ehd2,.string enm2,.int .i64 eh2,.int .i64 el2,.slice ep2 en2 ec2,.slice q2 stn d2,.slice r2 sun f2] [.int .u8 kd,.int .i64 a,.int .i64 b0,.int .u8 skd,.string shd,.string snm,.int .u8 sop,.int .i64 slw,.int .u64 slh,.int .u64 sll,.string sehd,.string senm,.int .i64 shi,.int .i64 slo,.slice sep sen sec,.slice stp stn stc,.slice sup sun suc] W3 3 hT3
  have hold:∀ b,b≠T→b < W3.heap.size→U.heap[b]?=W3.heap[b]?:=fun b hb _=>by rw [← hV];exact from_heap _ _ _ b hb
  have hOU:=OwR.same hO3 T HN.out hE3 hold
  have hiU:InR (b1+3) U ⟨kd,a,b0,.mk skd shd snm (.mk op2 ⟨lw2,lh2,ll2⟩ ehd2 enm2 eh2 el2 ep2 ec2 args2) q2 d2 sthn r2 f2 sels⟩:=hi3.keep fun b cur fz _ hh=>(hold b (fun e=>hE3 cur fz (e ▸ hh)) (Array.getElem?_eq_some_iff.1 hh).1).trans hh
  have hcU:Boxed U (b1+1) 36 v:=(hold _ (by omega) hc3.lt).trans hc3
  have hkU:KeepsFrom X.heap.size W2 U:=hk3.trans (by rw [← hV];exact (KeepsOthers.from_cells _ _ _).from _)
  have hsU:U.heap.size=W3.heap.size:=by rw [← hV];exact from_size _ _ _
  have hrU:Kr ⟨fun b=>b=b1+1,b1+3⟩ W2 U:=hr3.trans (Kr.of (by omega) (fun b hb=>by
   by_cases e:b=T
   ·subst e;exact .inr (.inr ⟨hbT,_,_,hT3⟩)
   ·exact .inl (hold b e hb)) fun B hb hs=>by
   rw [← hV];exact from_below (hs T (.inr ⟨hbT,_,_,hT3⟩)) _ _ _)
  have hqU:Kq (fun b=>b=b1+1∨b1+3≤b) X U:=hq3.trans (by rw [← hV];exact Kq.from_cells (.inr hbT) _ _ _)
  have u0:U.cell? ⟨T,0,none⟩=some (.int .u8 kd):=cell_lies hTU rfl
  have u1:U.cell? ⟨T,1,none⟩=some (.int .i64 a):=cell_lies hTU rfl
  have u2:U.cell? ⟨T,2,none⟩=some (.int .i64 b0):=cell_lies hTU rfl
  have u3:U.cell? ⟨T,3,none⟩=some (.int .u8 skd):=cell_lies hTU rfl
  have u4:U.cell? ⟨T,4,none⟩=some (.string shd):=cell_lies hTU rfl
  have u5:U.cell? ⟨T,5,none⟩=some (.string snm):=cell_lies hTU rfl
  have u6:U.cell? ⟨T,6,none⟩=some (.int .u8 op2):=cell_lies hTU rfl
  have u7:U.cell? ⟨T,7,none⟩=some (.int .i64 lw2):=cell_lies hTU rfl
  have u8:U.cell? ⟨T,8,none⟩=some (.int .u64 lh2):=cell_lies hTU rfl
  have u9:U.cell? ⟨T,9,none⟩=some (.int .u64 ll2):=cell_lies hTU rfl
  have u10:U.cell? ⟨T,10,none⟩=some (.string ehd2):=cell_lies hTU rfl
  have u11:U.cell? ⟨T,11,none⟩=some (.string enm2):=cell_lies hTU rfl
  have u12:U.cell? ⟨T,12,none⟩=some (.int .i64 eh2):=cell_lies hTU rfl
  have u13:U.cell? ⟨T,13,none⟩=some (.int .i64 el2):=cell_lies hTU rfl
  have u14:U.cell? ⟨T,14,none⟩=some (.slice ep2 en2 ec2):=cell_lies hTU rfl
  have u15:U.cell? ⟨T,15,none⟩=some (.slice q2 stn d2):=cell_lies hTU rfl
  have u16:U.cell? ⟨T,16,none⟩=some (.slice r2 sun f2):=cell_lies hTU rfl
  have cU:=hcU.cell
  have hBU:b1+3≤U.heap.size:=by have:=IX.out;omega
  have GO:=Lib.hid hOU
  have GI:=Lib.hid hiU
  have GC:=Lib.hid hcU
  have GK:=Lib.hid hkU
  have GR:=Lib.hid hrU
  have GQ:=Lib.hid hqU
  have GB:=Lib.hid hBU
  have hb3':=Lib.hid hb3
  clear hOU hiU hcU hkU hrU hqU hBU hs3 hsU hold hTU hV hq3 hr3 hk3 hc3 hi3 hO3 hX3 hE3 hT3 hin3 ho3 hW3 hb3 hbT
  gi_wp2_with (first|(rw [hU])|(gi_at_builtin;(refine ri_one_in GO.out.own GB.out ⟨kd,a,b0,.mk skd shd snm (.mk op2 ⟨lw2,lh2,ll2⟩ ehd2 enm2 eh2 el2 ep2 ec2 args2) q2 d2 sthn r2 f2 sels⟩ _ (by rw [← hen2,← hstn,← hsun];rfl) rfl _ _ rfl rfl rfl HB.out ?_;intro v5 w5 o5 g5;obtain⟨g6,cap6,rfl,hg6,-⟩:=own_sl o5 (by simp);have G6:=Lib.hid hg6;clear hg6;have c5:Boxed w5 (b1+1) 36 v:=(g5.block _ (by rw [World.size_alloc];have:=GC.out.lt;omega) (fun e=>by have:=(own_at GO.out.own e.symm).1;omega)).trans (Boxed.alloc GC.out _);have c5c:=c5.cell;have c5f:=c5.frozen;have O5:=Lib.hid o5;have G5:=Lib.hid g5;have C5:=Lib.hid c5;clear o5 g5 c5)))
  have hr5:=G5.out
  have hown:=fun g e=>own_at (b:=g) (ownr_alloc GO.out.own (.cells #[.int .u8 kd,.int .i64 a,.int .i64 b0,.int .u8 skd,.string shd,.string snm,.int .u8 op2,.int .i64 lw2,.int .u64 lh2,.int .u64 ll2,.string ehd2,.string enm2,.int .i64 eh2,.int .i64 el2,.slice ep2 en2 ec2,.slice q2 stn d2,.slice r2 sun f2] 49)) e
  have hIK:∀ b cur fz,b1+3≤b→U.heap[b]?=some (.cells cur 45 fz)→(w5.setCell ⟨b1+1,0,none⟩ (.slice (some ⟨g6,0,none⟩) (l'.length+1) cap6)).heap[b]?=some (.cells cur 45 fz):=fun b cur fz hb hh=>by
   refine (Below.heap_setCell _ _ _ b (by simp only;omega)).trans ((hr5.block b ?_ ?_).trans ?_)
   ·rw [World.size_alloc];have:=(Array.getElem?_eq_some_iff.1 hh).1;omega
   ·intro e
    obtain⟨_,cur2,h2⟩:=own_at GO.out.own e.symm
    rw [hh] at h2
    simp only [Option.some.injEq,Obj.cells.injEq] at h2
    exact absurd h2.2.1 (by decide)
   ·exact (Below.heap_alloc U _ b (Array.getElem?_eq_some_iff.1 hh).1).trans hh
  have hb6:=G6.out
  have q5:=O5.out
  simp only [List.length_append,List.length_cons,List.length_nil] at q5
  refine⟨((GK.out.trans ((KeepsOthers.alloc _ _).from _)).trans (KeepsFrom.grown hr5 fun g e=>by obtain⟨_,cur,h⟩:=hown g e;exact⟨_,_,_,h⟩)).trans ((KeepsOthers.setCell _ _ _).from _),((GR.out.trans (Kr.alloc _ _ _)).trans (Kr.grown hr5 fun g e=>by obtain⟨h1,cur,h⟩:=hown g e;exact⟨h1,_,_,h⟩)).trans (Kr.setCell _ _ _ rfl),((GQ.out.trans (Kq.alloc _ _ _)).trans (Kq.grown hr5 fun g e=>.inr (hown g e).1)).trans (Kq.setCell _ _ _ (.inl rfl)),_,Boxed.set _ C5.out,l'++[Ri.mk kd a b0 (.mk skd shd snm (.mk op2 ⟨lw2,lh2,ll2⟩ ehd2 enm2 eh2 el2 ep2 ec2 args2) q2 d2 sthn r2 f2 sels)],⟨by simp only [List.length_append,List.length_cons,List.length_nil];exact own_keep q5 fun b cur hb _ _=>Below.heap_setCell _ _ _ b (by simp only;omega),fun j z2 r hz2 hr=>?_,fun r hr=>?_⟩,by rw [List.length_append,HL.out];rfl⟩
  ·by_cases hj:j < l'.length
   ·rw [List.getElem?_append_left hj] at hr
    exact GO.out.like j z2 r hz2 hr
   ·rw [List.getElem?_append_right (by omega)] at hr
    obtain⟨rfl,rfl⟩:j=k∧r=Ri.mk kd a b0 (.mk skd shd snm (.mk op2 ⟨lw2,lh2,ll2⟩ ehd2 enm2 eh2 el2 ep2 ec2 args2) q2 d2 sthn r2 f2 sels):=by
     have hL:=HL.out
     cases hjl:j - l'.length with
     | zero=>rw [hjl] at hr;exact⟨by omega,by simpa using hr.symm⟩
     | succ i=>rw [hjl] at hr;simp at hr
    rw [HX.out] at hz2
    obtain rfl:=Option.some.inj hz2
    exact hlike'.out _ rfl rfl rfl rfl rfl rfl hb3'.out
  ·rcases List.mem_append.1 hr with hr | hr
   ·exact (GO.out.lies r hr).keep hIK
   ·obtain rfl:=List.mem_singleton.1 hr
    exact GI.out.keep hIK
 case done =>
  rintro D W hD ⟨h1,v,l,h2,h3,h4⟩ hK
  have c2:=h2.cell
  have hs:=IX.out
  have hb:=Ib.out
  gi_wp2
  refine⟨by simp,.inl ⟨_,_,rfl,run_takeDeferred hK,?_⟩⟩
  have hko:=Ko.putObj (n:=w.heap.size) (.deferred none) hK rfl rfl (by omega)
  exact⟨_,res_one _ v _ rfl,v,l,rfl,plus_of_below ((IB.out.trans (h1.low _ (by omega) (fun b h=>by omega))).trans hko.low),h4,(h3.ko hko).base (by omega)⟩
 case stop=>exact fun D W _ h _=>h.elim
end Go.Proofs.YtobhijbncchpiaaGreat

/-
  WHAT IS PROVED HERE: a part of the proof (made narrower and merged by program; the parts: Ed).
-/
import Derived.Test.YtobhijbncchpiaaGreatM40
import Derived.Test.YtobhijbncchpiaaGreatM41
import Derived.Test.YtobhijbncchpiaaGreatM42
import Derived.Test.YtobhijbncchpiaaGreatM21
namespace Go.Proofs.YtobhijbncchpiaaGreat
open Go.RowKit Go.Shelf
theorem ex_cells {B:Nat} {W W':World} (hk:∀ a v,B≤a.block→W.cell? a=some v→W'.cell? a=some v):∀ e:Ex,e.In W→ExO B W e→e.In W':=fun e=>Ex.ind (Q:=fun e=>e.In W→ExO B W e→e.In W') (fun e ih hi ho=>by
 obtain⟨_,op,lit,hi,lo,hd,nm,len,cap,row,kids⟩:=hi
 obtain⟨_,row2,kids2⟩:=ho
 refine .mk e op lit hi lo hd nm len cap (fun i x hx=>?_) fun x hx=>ih x hx (kids x hx) (kids2 x hx)
 obtain⟨a,ha,hc⟩:=row i x hx
 obtain⟨a2,cur,fz,h1,h2,h3⟩:=row2 (by have:=(List.getElem?_eq_some_iff.1 hx).1;omega)
 rw [h1] at ha
 obtain rfl:=Option.some.inj ha
 exact⟨a2,h1,fun j v hj=>hk _ v (by rw [add_block,add_block];exact h2) (hc j v hj)⟩) e
/-- Items that lie in a row of one's own. -/
theorem OwR.row {B:Nat} {W:World} {v:Value} {xs:List It} {l:List Ri} (h:OwR B W v xs l):∃ p c,v=.slice p l.length c∧RowAt W 17 Ri.cs p l∧∀ a,p=some a→B≤a.block:=by
 by_cases hn:0 < l.length
 ·obtain⟨g,c,rfl,hg,_⟩:=own_sl h.own hn
  exact⟨_,c,rfl,own_row h.own (fun y _=>y.cs_len),fun a ha=>by obtain rfl:=Option.some.inj ha;exact hg⟩
 ·obtain rfl:l=[]:=List.length_eq_zero_iff.1 (by omega)
  rcases h.own.2 with ⟨rfl,_⟩ | ⟨g,cap,cur,rfl,hg,_⟩
  ·exact⟨none,0,rfl,fun i x hx=>by simp at hx,fun a ha=>by cases ha⟩
  ·exact⟨_,cap,rfl,fun i x hx=>by simp at hx,fun a ha=>by obtain rfl:=Option.some.inj ha;exact hg⟩
theorem plus_set {W w':World} {nb:Nat} {t:TypeId} {u v:Value} (v':Value) (hN:Boxed W nb t u) (h:∃ y,w'=plus (W.setCell ⟨nb,0,none⟩ v) y):∃ y,w'.setCell ⟨nb,0,none⟩ v'=plus (W.setCell ⟨nb,0,none⟩ v') y:=by
 obtain⟨y,rfl⟩:=h
 have hb:=below_plus (W.setCell ⟨nb,0,none⟩ v) y
 refine plus_of_below ⟨hb.os,hb.tape,hb.output,?_,fun k hk=>?_⟩
 ·have:=hb.size
  simp only [World.size_setCell] at this ⊢
  exact this
 ·by_cases e:k=nb
  ·subst e
   have h1:Boxed (plus (W.setCell ⟨k,0,none⟩ v) y) k t v:=heap_plus (Boxed.set v hN) y
   exact (Boxed.set v' h1).trans (Boxed.set v' hN).symm
  ·rw [World.size_setCell] at hk
   exact (Below.heap_setCell _ ⟨nb,0,none⟩ v' k e).trans ((hb.block k (by rw [World.size_setCell];exact hk)).trans ((Below.heap_setCell W ⟨nb,0,none⟩ v k e).trans (Below.heap_setCell W ⟨nb,0,none⟩ v' k e).symm))
theorem check_next (p:Pr) (W W2 wr V w':World) (nb cb _ j:Nat) (z:It) (kv kv':Value) (K:Int) (hK:K=((j+1:Nat):Int)) (hW:Boxed W nb 3 (.int .i64 0)) (hnc:nb < cb) (hz:(encP p)[j]?=some z)
  (hq:Kq (fun b=>b=nb∨b=cb) W2 wr) (hV:∃ y,V=plus wr y) (hw:∃ y,w'=plus (W.setCell ⟨nb,0,none⟩ (.int .i64 (j:Int))) y) (hq':Kq (fun b=>b=cb) V w') (hB:BoxC w' cb p kv') (hN:Boxed w' nb 3 (.int .i64 (j:Int))) (h0:tyI p z=0)
  (hJ:∀ (i:Nat) (z:It),i < j→(encP p)[i]?=some z→tyI p z=0)
  (hKr:∀ (i a:Nat) (s:Sa),i < j→(encP p)[i]?=some (.num 6 a 0)→(∀ i':Nat,i < i'→i' < j→∀ a':Nat,(encP p)[i']?≠some (.num 6 a' 0))→p.states.l[a]?=some s→KeysOk wr cb kv (s.keys.l.map (keyW p)))
  (h5:∀ (a:Nat) (s:Sa),z=.num 6 a 0→p.states.l[a]?=some s→KeysOk w' cb kv' (s.keys.l.map (keyW p))) (h6:(∀ a,z≠.num 6 a 0)→kv'=kv) :
  (∃ y,w'.setCell ⟨nb,0,none⟩ (.int .i64 K)=plus (W.setCell ⟨nb,0,none⟩ (.int .i64 ((j+1:Nat):Int))) y)∧Kq (fun b=>b=nb∨b=cb) W2 (w'.setCell ⟨nb,0,none⟩ (.int .i64 K))∧Boxed (w'.setCell ⟨nb,0,none⟩ (.int .i64 K)) nb 3 (.int .i64 ((j+1:Nat):Int))∧(∀ (i:Nat) (z:It),i < j+1→(encP p)[i]?=some z→tyI p z=0) ∧
  ∃ kv:Value,BoxC (w'.setCell ⟨nb,0,none⟩ (.int .i64 K)) cb p kv∧∀ (i a:Nat) (s:Sa),i < j+1→(encP p)[i]?=some (.num 6 a 0)→(∀ i':Nat,i < i'→i' < j+1→∀ a':Nat,(encP p)[i']?≠some (.num 6 a' 0))→p.states.l[a]?=some s→KeysOk (w'.setCell ⟨nb,0,none⟩ (.int .i64 K)) cb kv (s.keys.l.map (keyW p)):=by
 subst hK
 have hst:∀ (a:Addr) (v:Value),cb < a.block→w'.cell? a=some v→(w'.setCell ⟨nb,0,none⟩ (.int .i64 ((j+1:Nat):Int))).cell? a=some v:=fun a v ha hv=>(World.cell?_setCell_far w' ⟨nb,0,none⟩ a _ (by simp only;omega)).trans hv
 refine⟨?_,?_,Boxed.set _ hN,fun i z2 hi hz2=>?_,kv',(Below.heap_setCell _ _ _ cb (by simp only;omega)).trans hB,fun i a s hi h6i hc hs=>?_⟩
 ·exact plus_set _ hW hw
 ·obtain⟨y,rfl⟩:=hV
  exact ((hq.trans (Kq.plus _ wr y)).trans (hq'.mono fun b h=>.inr h)).trans (Kq.setCell _ _ _ (.inl rfl))
 ·by_cases hij:i < j
  ·exact hJ i z2 hij hz2
  ·obtain rfl:i=j:=by omega
   rw [hz] at hz2
   obtain rfl:=Option.some.inj hz2
   exact h0
 ·by_cases hij:i < j
  ·have e:=h6 (fun a' h=>hc j hij (Nat.lt_succ_self j) a' (by rw [hz,h]))
   subst e
   have q:=hKr i a s hij h6i (fun i' q1 q2=>hc i' q1 (by omega)) hs
   refine q.keep fun c v hcv hv=>hst c v hcv (hq'.cell c v (by omega) ?_)
   obtain⟨y,rfl⟩:=hV
   exact cell_keep hv y
  ·obtain rfl:i=j:=by omega
   rw [hz] at h6i
   exact (h5 a s (Option.some.inj h6i) hs).keep hst
set_option maxRecDepth 100000 in
set_option maxHeartbeats 16000000 in
theorem t_check1 (w0 W:World) (p:Pr) (b0 nb:Nat) (hV:∃ y,W=plus w0 y) (hb0:∀ j v,p.cells[j]?=some v→W.cell? ⟨b0,j,none⟩=some v) (hb0l:b0≠nb) (hnb:Boxed W nb 3 (.int .i64 0)) (hnl:w0.heap.size≤nb)
  (hin:p.In w0) (hz:p.sz≤1048576) (hW:Wide p) (hN:∀ z ∈ encP p,NoWr p z) :
  Calls Tryz.prog 19 #[.pointer (some ⟨b0,0,none⟩),.pointer (some ⟨nb,0,none⟩)] W fun e w'=>e=endE (scanT p (encP p) 0).2 (.tuple #[])∧∃ y,w'=plus (W.setCell ⟨nb,0,none⟩ (.int .i64 ((scanT p (encP p) 0).1:Int))) y:=by
 have hinW:p.In W:=by obtain⟨y,rfl⟩:=hV;exact hin.plus y
 have c0:=hb0 0 _ rfl
 have c1:=hb0 1 _ rfl
 have c2:=hb0 2 _ rfl
 have c3:=hb0 3 _ rfl
 have c4:=hb0 4 _ rfl
 have c5:=hb0 5 _ rfl
 have c6:=hb0 6 _ rfl
 simp only [Sl.v] at c0 c1 c2 c3 c4 c5 c6
 have hlen:=encP_len p hz
 obtain⟨cb,hcb⟩:∃ b,W.heap.size=b:=⟨_,rfl⟩
 have hncb:nb < cb:=by rw [← hcb];exact hnb.lt
 have I1:=Lib.hid (show ∀ z r,z ∈ encP p→LikeR z r→r.s.e.wt≤1048576 from fun z r hm hl=>by
  have hok:=enc_ok p W hinW hz z hm
  rw [like_wt hl.e]
  cases hok with
  | stmt a s hs hsz=>have:=St.sz_eq s;show s.e.wt≤_;omega
  | _=>exact by show Ex.wt zeroEx≤_;decide)
 have hB:BoxC (W.alloc (.cells (p.cells++[Value.slice none 0 0]).toArray 81)) cb p (.slice none 0 0):=by rw [← hcb];exact World.alloc_heap_new W _
 have hX1:∃ y,W.alloc (.cells (p.cells++[Value.slice none 0 0]).toArray 81)=plus w0 y:=up_alloc hV _
 have hXq:Kq (fun b=>b=nb) W (W.alloc (.cells (p.cells++[Value.slice none 0 0]).toArray 81)):=Kq.alloc _ W _
 have hXn:=hnb.alloc (.cells (p.cells++[Value.slice none 0 0]).toArray 81)
 have hXs:(W.alloc (.cells (p.cells++[Value.slice none 0 0]).toArray 81)).heap.size=cb+1:=by rw [World.size_alloc,hcb]
 obtain⟨X,hX⟩:∃ X,W.alloc (.cells (p.cells++[Value.slice none 0 0]).toArray 81)=X:=⟨_,rfl⟩
 rw [hX] at hB hX1 hXq hXn hXs
 have d0:=hXq.cell _ _ (by exact hb0l) c0
 have d1:=hXq.cell _ _ (by exact hb0l) c1
 have d2:=hXq.cell _ _ (by exact hb0l) c2
 have d3:=hXq.cell _ _ (by exact hb0l) c3
 have d4:=hXq.cell _ _ (by exact hb0l) c4
 have d5:=hXq.cell _ _ (by exact hb0l) c5
 have d6:=hXq.cell _ _ (by exact hb0l) c6
 have qI:=Lib.hid (q_Items p X (by obtain⟨y,hy⟩:=hX1;rw [hy];exact hin.plus y) hz)
 have JB:=Lib.hid hB
 have J1:=Lib.hid hX1
 have Jq:=Lib.hid hXq
 have Jn:=Lib.hid hXn
 have Js:=Lib.hid hXs
 have Jz:=Lib.hid hz
 have JW:=Lib.hid hW
 have JN:=Lib.hid hN
 have Jin:=Lib.hid hin
 have Jnl:=Lib.hid hnl
 have Jnc:=Lib.hid hncb
 have Jlen:=Lib.hid hlen
 have JV:=Lib.hid hV
 have JNW:=Lib.hid hnb
 have JXW:=Lib.hid (show ∃ y,X=plus W y from by rw [← hX];exact own1 W _)
 have hX':W.alloc (.cells #[.slice p.headers.p p.headers.l.length p.headers.cap,.slice p.metas.p p.metas.l.length p.metas.cap,.slice p.states.p p.states.l.length p.states.cap,.slice p.actions.p p.actions.l.length p.actions.cap,.slice p.tables.p p.tables.l.length p.tables.cap,.slice p.control.p p.control.l.length p.control.cap,.slice p.emit.p p.emit.l.length p.emit.cap,.slice none 0 0] 81)=X:=hX
 obtain⟨⟨SN1,SR⟩,hS⟩:∃ r,scanT p (encP p) 0=r:=⟨_,rfl⟩
 rw [hS]
 simp only
 have JS:=Lib.hid hS
 have Jc:=Lib.hid hcb
 clear hcb hS hB hX1 hXq hXn hXs hz hW hN hin hnl hncb hlen hV hb0 hinW hnb hX
 have JX':=Lib.hid hX'
 clear hX'
 go_enter Tryz.func19,Tryz.ntmps19
 go_upto_region 1 with (fail)
 rw [JX'.out,Jc.out]
 clear JX' c0 c1 c2 c3 c4 c5 c6
 go_wp2_with fail
 refine qI.out.mono ?_
 rintro e W2 ⟨v,l,rfl,⟨x2,hx2⟩,hll,hOwn⟩
 obtain⟨ip,ic,rfl,hrow,hblk⟩:=hOwn.row
 have K2:Kq (fun b=>b=nb∨b=cb) X W2:=by rw [hx2];exact Kq.plus _ X x2
 have B2:BoxC W2 cb p (.slice none 0 0):=by rw [hx2];exact JB.out.plus x2
 have N2:Boxed W2 nb 3 (.int .i64 0):=by rw [hx2];exact heap_plus Jn.out x2
 have Z2:∃ y,W2=plus (W.setCell ⟨nb,0,none⟩ (.int .i64 ((0:Nat):Int))) y:=by
  refine plus_of_below ?_
  obtain⟨y,hy⟩:=JXW.out
  rw [hx2,hy,plus_plus]
  have hb:=below_plus W (⟨y.blocks++x2.blocks,x2.draws⟩:Ext)
  refine⟨hb.os,hb.tape,hb.output,?_,fun k hk=>?_⟩
  ·rw [World.size_setCell];exact hb.size
  ·rw [World.size_setCell] at hk
   refine (hb.block k hk).trans ?_
   by_cases e:k=nb
   ·subst e
    exact (Boxed.set (.int .i64 0) JNW.out).symm ▸ JNW.out
   ·exact (Below.heap_setCell W ⟨nb,0,none⟩ _ k e).symm
 obtain⟨n,hn⟩:∃ n,l.length=n:=⟨_,rfl⟩
 rw [hn]
 have Hn:=Lib.hid hn
 have Hll:=Lib.hid hll
 have HO:=Lib.hid hOwn
 have Hrow:=Lib.hid hrow
 have Hblk:=Lib.hid hblk
 have HK2:=Lib.hid K2
 have HB2:=Lib.hid B2
 have HN2:=Lib.hid N2
 have HZ2:=Lib.hid Z2
 have Hle:=Lib.hid (show n≤2097152 by have:=Jlen.out;omega)
 clear hn hll hOwn hrow hblk K2 B2 N2 Z2 hx2 qI d0 d1 d2 d3 d4 d5 d6
 go_wp2
 go_loopw [4,10] (fun _ iv wr=>∃ j:Nat,j≤n∧iv=.int .i64 (j:Int)∧(∃ y,wr=plus (W.setCell ⟨nb,0,none⟩ (.int .i64 (j:Int))) y)∧Kq (fun b=>b=nb∨b=cb) W2 wr∧Boxed wr nb 3 (.int .i64 (j:Int))∧(∀ (i:Nat) (z:It),i < j→(encP p)[i]?=some z→tyI p z=0) ∧
  ∃ kv:Value,BoxC wr cb p kv∧∀ (i a:Nat) (s:Sa),i < j→(encP p)[i]?=some (.num 6 a 0)→(∀ i':Nat,i < i'→i' < j→∀ a':Nat,(encP p)[i']?≠some (.num 6 a' 0))→p.states.l[a]?=some s→KeysOk wr cb kv (s.keys.l.map (keyW p))) (fun _ iv _=>n - (intOf iv).toNat)
 case atStart=>exact⟨0,Nat.zero_le _,rfl,HZ2.out,Kq.refl _ _,HN2.out,fun i z h=>absurd h (Nat.not_lt_zero i),.slice none 0 0,HB2.out,fun i a s h=>absurd h (Nat.not_lt_zero i)⟩
 case round =>
  obtain⟨j,hj,rfl,hzr,hqr,hnr,hJ,kv,hBr,hKr⟩:=hrel
  by_cases hlt:j < n
  ·obtain⟨r,hr⟩:∃ r,l[j]?=some r:=⟨l[j]'(by rw [Hn.out];exact hlt),List.getElem?_eq_getElem _⟩
   obtain⟨z,hz⟩:∃ z,(encP p)[j]?=some z:=⟨(encP p)[j]'(by rw [← Hll.out,Hn.out];exact hlt),List.getElem?_eq_getElem _⟩
   obtain⟨pa,hpa,hcx⟩:=Hrow.out j r hr
   have hblk:=Hblk.out pa hpa
   subst hpa
   have hlike:=HO.out.like j z r hz hr
   have hlies:=HO.out.lies r (List.mem_of_getElem? hr)
   have hzm:=List.mem_of_getElem? hz
   have hXs:=Js.out
   have hnc:=Jnc.out
   have hkc:∀ (a:Addr) (v:Value),X.heap.size≤a.block→W2.cell? a=some v→wr.cell? a=some v:=fun a v ha hv=>hqr.cell a v (fun h=>by omega) hv
   have hcw:CellsAt wr (pa.add (j*17)) r.cs:=fun i v hi=>hkc _ v (by rw [add_block,add_block];exact hblk) (hcx i v hi)
   have hein:=ex_cells hkc _ hlies.lies hlies.own
   have hwt:=I1.out z r hzm hlike
   have hno:=JN.out z hzm
   have hkeys:∀ (a b:Nat) (s:Sa),z=.num 7 a b→p.states.l[a]?=some s→KeysOk wr cb kv (s.keys.l.map (keyW p)):=fun a b s hz7 hs=>by
    obtain⟨i,h1,h2,h3⟩:=nx_prog p j a b (by rw [hz,hz7])
    exact hKr i a s h1 h2 h3 hs
   have hit:=fun (V:World) (hV:∃ y,V=plus wr y)=>t_item (W.setCell ⟨nb,0,none⟩ (.int .i64 (j:Int))) V p cb kv z r (by obtain⟨y,rfl⟩:=hV;exact up_plus hzr y) (by rw [World.size_setCell,Jc.out];exact Nat.le_refl _) (by obtain⟨y,hy⟩:=JV.out;obtain⟨y2,hy2⟩:=plus_of_below ((show Below w0.heap.size w0 W by rw [hy];exact below_plus w0 y).setCell (p:=⟨nb,0,none⟩) Jnl.out (.int .i64 (j:Int)));rw [hy2];exact Jin.out.plus y2) Jz.out JW.out hno hlike (by obtain⟨y,rfl⟩:=hV;exact hein.plus y) hwt (by obtain⟨y,rfl⟩:=hV;exact hBr.plus y)
    (fun a b s h7 hs=>(hkeys a b s h7 hs).keep fun c v _ hv=>by obtain⟨y,rfl⟩:=hV;exact cell_keep hv y)
   obtain⟨rk,ra,rb,⟨sk,shd,snm,⟨op,⟨lw,lh,ll⟩,hd,nm,eh,el,ep,ec,eargs⟩,tp,tc,thn,up,uc,els⟩⟩:=r
   obtain⟨en,hen⟩:∃ n,eargs.length=n:=⟨_,rfl⟩
   obtain⟨tn,htn⟩:∃ n,thn.length=n:=⟨_,rfl⟩
   obtain⟨un,hun⟩:∃ n,els.length=n:=⟨_,rfl⟩
   simp only [Ri.cs,St.cells,St.kind,St.head,St.name,St.e,St.p,St.cap,St.thn,St.q,St.cbp,St.els,Ex.op,Ex.lit,Ex.head,Ex.name,Ex.hi,Ex.lo,Ex.p,Ex.args,Ex.cap,hen,htn,hun] at hcw hit
   have g0:=hcw.c0 _ rfl
   have g1:=hcw.cs 0 _ rfl
   have g2:=hcw.cs 1 _ rfl
   have g3:=hcw.cs 2 _ rfl
   have g4:=hcw.cs 3 _ rfl
   have g5:=hcw.cs 4 _ rfl
   have g6:=hcw.cs 5 _ rfl
   have g7:=hcw.cs 6 _ rfl
   have g8:=hcw.cs 7 _ rfl
   have g9:=hcw.cs 8 _ rfl
   have g10:=hcw.cs 9 _ rfl
   have g11:=hcw.cs 10 _ rfl
   have g12:=hcw.cs 11 _ rfl
   have g13:=hcw.cs 12 _ rfl
   have g14:=hcw.cs 13 _ rfl
   have g15:=hcw.cs 14 _ rfl
   have g16:=hcw.cs 15 _ rfl
   have a6:=Lib.hid (wr_succ2 j n hlt Hle.out)
   have QZ:=Lib.hid hzr
   have QQ:=Lib.hid hqr
   have QN:=Lib.hid hnr
   have QJ:=Lib.hid hJ
   have QB:=Lib.hid hBr
   have QK:=Lib.hid hKr
   have Qz:=Lib.hid hz
   have Qit:=Lib.hid hit
   clear hcw hzr hqr hnr hJ hBr hKr hz hit hr hkc hlike hlies hzm hein hwt hno hkeys hcx hblk hXs hnc hen htn hun
   go_upto_region 4 with (fail)
   have hE:=World.alloc_heap_new wr (.cells #[.int .u8 rk,.int .i64 ra,.int .i64 rb,.int .u8 sk,.string shd,.string snm,.int .u8 op,.int .i64 lw,.int .u64 lh,.int .u64 ll,.string hd,.string nm,.int .i64 eh,.int .i64 el,.slice ep en ec,.slice tp tn tc,.slice up un uc] 49)
   have hUz:=own1 wr (.cells #[.int .u8 rk,.int .i64 ra,.int .i64 rb,.int .u8 sk,.string shd,.string snm,.int .u8 op,.int .i64 lw,.int .u64 lh,.int .u64 ll,.string hd,.string nm,.int .i64 eh,.int .i64 el,.slice ep en ec,.slice tp tn tc,.slice up un uc] 49)
   obtain⟨U,hU⟩:∃ U,wr.alloc (.cells #[.int .u8 rk,.int .i64 ra,.int .i64 rb,.int .u8 sk,.string shd,.string snm,.int .u8 op,.int .i64 lw,.int .u64 lh,.int .u64 ll,.string hd,.string nm,.int .i64 eh,.int .i64 el,.slice ep en ec,.slice tp tn tc,.slice up un uc] 49)=U:=⟨_,rfl⟩
   rw [hU] at hE hUz ⊢
   obtain⟨eb,heb⟩:∃ b,wr.heap.size=b:=⟨_,rfl⟩
   rw [heb] at hE ⊢
   have qit:=Lib.hid (Qit.out _ hUz)
   have HUz:=Lib.hid hUz
   have HE:=Lib.hid hE
   clear hU hE heb hUz g0 g1 g2 g3 g4 g5 g6 g7 g8 g9 g10 g11 g12 g13 g14 g15 g16
   go_wp2_with (first|(refine wpList_load_row rfl 49 (.tmp 4) rfl eb rfl 49 #[.int .u8 rk,.int .i64 ra,.int .i64 rb,.int .u8 sk,.string shd,.string snm,.int .u8 op,.int .i64 lw,.int .u64 lh,.int .u64 ll,.string hd,.string nm,.int .i64 eh,.int .i64 el,.slice ep en ec,.slice tp tn tc,.slice up un uc] (0,0) _ HE.out Tryz.underlying49 rfl (by kernel_rfl) ?_))
   refine qit.out.mono ?_
   rintro e w' (⟨t0,rfl,hw',hq',kv',hB',hk1,hk2⟩ | ⟨t0,rfl,hw',hq'⟩)
   ·have hN':Boxed w' nb 3 (.int .i64 (j:Int)):=by
     obtain⟨y,hy⟩:=HUz.out
     have q1:Boxed U nb 3 (.int .i64 (j:Int)):=by rw [hy];exact heap_plus QN.out y
     exact ((hq'.low (nb+1) q1.lt (fun b e=>by have:=Jnc.out;omega)).block nb (Nat.lt_succ_self nb)).trans q1
    have n1:=hN'.cell
    have n2:=hN'.frozen
    have P1:=Lib.hid t0
    have P2:=Lib.hid hw'
    have P3:=Lib.hid hq'
    have P4:=Lib.hid hB'
    have P5:=Lib.hid hk1
    have P6:=Lib.hid hk2
    have P7:=Lib.hid hN'
    clear t0 hw' hq' hB' hk1 hk2 hN' qit
    go_wp2
    exact⟨⟨j+1,hlt,congrArg (Value.int .i64) a6.out,check_next p W W2 wr U w' nb cb n j z kv kv' _ a6.out JNW.out Jnc.out Qz.out QQ.out HUz.out P2.out P3.out P4.out P7.out P1.out QJ.out QK.out P5.out P6.out⟩,step_less j n hlt a6.out⟩
   ·have hres:=scanT_some p (encP p) 0 j z Qz.out QJ.out t0
    rw [JS.out] at hres
    injection hres with hr1 hr2
    have P1:=Lib.hid t0
    have P2:=Lib.hid hw'
    have Pr1:=Lib.hid hr1
    have Pr2:=Lib.hid hr2
    clear t0 hw' hq' hr1 hr2 qit
    go_wp2
    have e1:SN1=j:=by have:=Pr1.out;omega
    exact⟨rfl,by rw [Pr2.out,endE_n P1.out],by rw [e1];exact P2.out⟩
  ·obtain rfl:j=n:=by omega
   have hlj:(encP p).length=j:=by rw [← Hll.out,Hn.out]
   have hres:=scanT_none p (encP p) 0 (fun i y hi=>hJ i y (by have:=(List.getElem?_eq_some_iff.1 hi).1;omega) hi)
   rw [JS.out] at hres
   injection hres with hr1 hr2
   have e1:SN1=j:=by omega
   have P2:=Lib.hid hzr
   have Pe:=Lib.hid e1
   have Pr2:=Lib.hid hr2
   clear hzr hqr hnr hBr hKr hJ hr1 hr2 e1 hlj
   go_wp2
   go_end0
   exact⟨by rw [Pr2.out];rfl,by rw [Pe.out];exact P2.out⟩
end Go.Proofs.YtobhijbncchpiaaGreat

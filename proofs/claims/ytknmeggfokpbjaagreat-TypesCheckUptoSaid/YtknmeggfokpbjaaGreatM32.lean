/-
  WHAT IS PROVED HERE: a part of the proof (made narrower and merged by program; the parts: Ed Zu Ee Ws Wm).
-/
import Derived.Test.YtknmeggfokpbjaaGreatM30
import Derived.Test.YtknmeggfokpbjaaGreatM31
import Derived.Test.YtknmeggfokpbjaaGreatM18
import Derived.Test.YtknmeggfokpbjaaGreatM27
import Derived.Test.YtknmeggfokpbjaaGreatM10
import Derived.Test.YtknmeggfokpbjaaGreatM29
import Derived.Test.YtknmeggfokpbjaaGreatM19
set_option maxRecDepth 100000
set_option maxHeartbeats 8000000
set_option linter.all false
namespace Go.Proofs.YtknmeggfokpbjaaGreat
open Z
open Go.RowKit Go.Proofs.Tryz
open Ending renaming returned→Zd
open Lib renaming hid→Zf
open List renaming getElem?_eq_some_iff→Zi,length_append→Zj,length_cons→Zk,length_nil→Zl,map_cons→Zm,mem_of_getElem?→Zo,take_succ_cons→Zs
open Nat renaming le_refl→Zt,lt_of_lt_of_le→Zu,zero_le→Zw
open Go.Proofs.Tryz renaming prog→Zx
open Value renaming int→Zz
open Go.RowKit Go.Shelf
theorem lE{B:Nat}{W W':World}(hk:∀a v,B≤a.block→W.cell? a=some v→W'.cell? a=some v):∀e:Ex,e.In W→WP B W e→e.In W':=fun e=>Ex.ind (Q:=fun e=>e.In W→WP B W e→e.In W') (fun e ih hi ho=>by
 obtain⟨_,op,lit,hi,lo,hd,nm,len,cap,row,kids⟩:=hi;obtain⟨_,row2,kids2⟩:=ho;refine .mk e op lit hi lo hd nm len cap (fun i x hx=>?_) fun x hx=>ih x hx (kids x hx) (kids2 x hx);obtain⟨a,ha,hc⟩:=row i x hx;obtain⟨a2,cur,fz,h1,h2,h3⟩:=row2 (by have:=(Zi.1 hx).1;omega);rw[h1]at ha;obtain rfl:=Option.some.inj ha;exact⟨a2,h1,fun j v hj=>hk _ v (by rw[Qi,Qi];exact h2) (hc j v hj)⟩) e
theorem T6.row{B:Nat}{W:World}{v:Value}{xs:List It}{l:List Ri}(h:T6 B W v xs l):∃p c,v=.slice p l.length c∧Xa W 17 Ri.cs p l∧∀a,p=some a→B≤a.block:=by
 by_cases hn:0<l.length
 ·obtain⟨g,c,rfl,hg,_⟩:=JL h.own hn
  exact⟨_,c,rfl,FF h.own (fun y _=>y.cs_len),fun a ha=>by obtain rfl:=Option.some.inj ha;exact hg⟩
 ·obtain rfl:l=[]:=List.length_eq_zero_iff.1 asB
  rcases h.own.2 with⟨rfl,_⟩|⟨g,cap,cur,rfl,hg,_⟩
  ·exact⟨none,0,rfl,fun i x hx=>by simp at hx,fun a ha=>by cases ha⟩
  ·exact⟨_,cap,rfl,fun i x hx=>by simp at hx,fun a ha=>by obtain rfl:=Option.some.inj ha;exact hg⟩
theorem em{W w':World}{nb:Nat}{t:TypeId}{u v:Value}(v':Value)(hN:Boxed W nb t u)(h:∃y,w'=plus (W.setCell ⟨nb,0,none⟩ v) y):∃y,w'.setCell ⟨nb,0,none⟩ v'=plus (W.setCell ⟨nb,0,none⟩ v') y:=by
 obtain⟨y,rfl⟩:=h;have hb:=Xl (W.setCell ⟨nb,0,none⟩ v) y;refine Yy ⟨hb.os,hb.tape,hb.output,?_,fun k hk=>?_⟩
 ·have:=hb.size
  simp only[World.size_setCell]at this ⊢;exact this
 ·by_cases e:k=nb
  ·subst e
   have h1:Boxed (plus (W.setCell ⟨k,0,none⟩ v) y) k t v:=UN (Boxed.set v hN) y;exact (Boxed.set v' h1).trans (Boxed.set v' hN).symm
  ·rw[World.size_setCell]at hk
   exact (Below.heap_setCell _ ⟨nb,0,none⟩ v' k e).trans ((hb.block k (by rw[World.size_setCell];exact hk)).trans ((Below.heap_setCell W ⟨nb,0,none⟩ v k e).trans (Below.heap_setCell W ⟨nb,0,none⟩ v' k e).symm))
theorem nY(p:Pr)(W W2 wr V w':World)(nb cb n j:Nat)(z:It)(kv kv':Value)(K:Int)(hK:K=((j+1:Nat):Int))(hW:Boxed W nb 3 (.int .i64 0))(hnc:nb<cb)(hz:(Yh p)[j]?=some z)(hq:Kq (fun b=>b=nb∨b=cb) W2 wr)(hV:∃y,V=plus wr y)(hw:∃y,w'=plus (W.setCell ⟨nb,0,none⟩ (.int .i64 (j:Int))) y)(Sh:Kq (fun b=>b=cb) V w')(hB:Ww w' cb p kv')(hN:Boxed w' nb 3 (.int .i64 (j:Int)))(h0:XL p z=0)(hJ:∀(i:Nat) (z:It),i<j→(Yh p)[i]?=some z→XL p z=0)(hKr:∀(i a:Nat) (s:Sa),i<j→(Yh p)[i]?=some (.num 6 a 0)→(∀i':Nat,i<i'→i'<j→∀a':Nat,(Yh p)[i']?≠some (.num 6 a' 0))→p.states.l[a]?=some s→Qg wr cb kv (s.keys.l.map (UW p)))(h5:∀(a:Nat) (s:Sa),z=.num 6 a 0→p.states.l[a]?=some s→Qg w' cb kv' (s.keys.l.map (UW p)))(h6:(∀a,z≠.num 6 a 0)→kv'=kv) :
  (∃y,w'.setCell ⟨nb,0,none⟩ (.int .i64 K)=plus (W.setCell ⟨nb,0,none⟩ (.int .i64 ((j+1:Nat):Int))) y)∧Kq (fun b=>b=nb∨b=cb) W2 (w'.setCell ⟨nb,0,none⟩ (.int .i64 K))∧Boxed (w'.setCell ⟨nb,0,none⟩ (.int .i64 K)) nb 3 (.int .i64 ((j+1:Nat):Int))∧(∀(i:Nat) (z:It),i<j+1→(Yh p)[i]?=some z→XL p z=0) ∧
  ∃kv:Value,Ww (w'.setCell ⟨nb,0,none⟩ (.int .i64 K)) cb p kv∧∀(i a:Nat) (s:Sa),i<j+1→(Yh p)[i]?=some (.num 6 a 0)→(∀i':Nat,i<i'→i'<j+1→∀a':Nat,(Yh p)[i']?≠some (.num 6 a' 0))→p.states.l[a]?=some s→Qg (w'.setCell ⟨nb,0,none⟩ (.int .i64 K)) cb kv (s.keys.l.map (UW p)):=by
 subst hK;have Vp:∀(a:Addr) (v:Value),cb<a.block→w'.cell? a=some v→(w'.setCell ⟨nb,0,none⟩ (.int .i64 ((j+1:Nat):Int))).cell? a=some v:=fun a v ha hv=>(World.cell?_setCell_far w' ⟨nb,0,none⟩ a _ asX).trans hv;refine⟨?_,?_,Boxed.set _ hN,fun i Xt hi ZG=>?_,kv',(Below.heap_setCell _ _ _ cb asX).trans hB,fun i a s hi h6i hc hs=>?_⟩
 ·exact em _ hW hw
 ·obtain⟨y,rfl⟩:=hV
  exact ((hq.trans (Kq.plus _ wr y)).trans (Sh.mono fun b h=>.inr h)).trans (Kq.setCell _ _ _ (.inl rfl))
 ·by_cases hij:i<j
  ·exact hJ i Xt hij ZG
  ·obtain rfl:i=j:=by omega
   rw[hz]at ZG;obtain rfl:=Option.some.inj ZG;exact h0
 ·by_cases hij:i<j
  ·have e:=h6 (fun a' h=>hc j hij (Nat.lt_succ_self j) a' (by rw[hz,h]))
   subst e;have q:=hKr i a s hij h6i (fun i' q1 q2=>hc i' q1 asB) hs;refine q.keep fun c v hcv hv=>Vp c v hcv (Sh.cell c v asB ?_);obtain⟨y,rfl⟩:=hV;exact ZS hv y
  ·obtain rfl:i=j:=by omega
   rw[hz]at h6i;exact (h5 a s (Option.some.inj h6i) hs).keep Vp
theorem aA(w0 W:World)(p:Pr)(b0 nb:Nat)(hV:∃y,W=plus w0 y)(hb0:∀j v,p.cells[j]?=some v→W.cell? ⟨b0,j,none⟩=some v)(Og:b0≠nb)(W7:Boxed W nb 3 (.int .i64 0))(hnl:w0.heap.size≤nb)(ZF:p.In w0)(hz:p.sz≤1048576)(hW:U8 p)(hN:∀z∈Yh p,Qh p z) :
  Calls Zx 19 #[.pointer (some ⟨b0,0,none⟩),.pointer (some ⟨nb,0,none⟩)] W fun e w'=>e=Yl (TV p (Yh p) 0).2 (.tuple #[])∧∃y,w'=plus (W.setCell ⟨nb,0,none⟩ (.int .i64 ((TV p (Yh p) 0).1:Int))) y:=by
 have hinW:p.In W:=by obtain⟨y,rfl⟩:=hV;exact ZF.plus y
 have c0:=hb0 0 _ rfl;have c1:=hb0 1 _ rfl;have c2:=hb0 2 _ rfl;have c3:=hb0 3 _ rfl;have c4:=hb0 4 _ rfl;have c5:=hb0 5 _ rfl;have c6:=hb0 6 _ rfl;simp only[Sl.v]at c0 c1 c2 c3 c4 c5 c6;have XQ:=S9 p hz;obtain⟨cb,Tw⟩:=ZB W.heap.size;have hncb:nb<cb:=by rw[←Tw];exact W7.lt
 have I1:=Zf (show ∀z r,z∈Yh p→Ks z r→r.s.e.wt≤1048576 from fun z r hm hl=>by
  have VS:=PZ p W hinW hz z hm;rw[j2 hl.e];cases VS with
  | stmt a s hs YB=>have:=St.sz_eq s;show s.e.wt≤_;omega
  | _=>exact by show Ex.wt Vl≤_;decide)
 have hB:Ww (W.alloc (.cells (p.cells++[Value.slice none 0 0]).toArray 81)) cb p (.slice none 0 0):=by rw[←Tw];exact World.alloc_heap_new W _
 have T9:∃y,W.alloc (.cells (p.cells++[Value.slice none 0 0]).toArray 81)=plus w0 y:=So hV _;have SA:Kq (fun b=>b=nb) W (W.alloc (.cells (p.cells++[Value.slice none 0 0]).toArray 81)):=Kq.alloc _ W _;have hXn:=W7.alloc (.cells (p.cells++[Value.slice none 0 0]).toArray 81);have Re:(W.alloc (.cells (p.cells++[Value.slice none 0 0]).toArray 81)).heap.size=cb+1:=by rw[World.size_alloc,Tw]
 obtain⟨X,hX⟩:=ZB (W.alloc (.cells (p.cells++[Value.slice none 0 0]).toArray 81));rw[hX]at hB T9 SA hXn Re;have d0:=SA.cell _ _ (by exact Og) c0;have d1:=SA.cell _ _ (by exact Og) c1;have d2:=SA.cell _ _ (by exact Og) c2;have d3:=SA.cell _ _ (by exact Og) c3;have d4:=SA.cell _ _ (by exact Og) c4;have d5:=SA.cell _ _ (by exact Og) c5;have d6:=SA.cell _ _ (by exact Og) c6;have qI:=Zf (ex p X (by obtain⟨y,hy⟩:=T9;rw[hy];exact ZF.plus y) hz);have JB:=Zf hB;have J1:=Zf T9;have Jq:=Zf SA;have Jn:=Zf hXn;have Js:=Zf Re;have Jz:=Zf hz;have JW:=Zf hW;have JN:=Zf hN;have Jin:=Zf ZF;have Jnl:=Zf hnl;have Jnc:=Zf hncb;have Jlen:=Zf XQ;have JV:=Zf hV;have JNW:=Zf W7;have JXW:=Zf (show ∃y,X=plus W y from by rw[←hX];exact JI W _);have hX':W.alloc (.cells #[.slice p.headers.p p.headers.l.length p.headers.cap,.slice p.metas.p p.metas.l.length p.metas.cap,.slice p.states.p p.states.l.length p.states.cap,.slice p.actions.p p.actions.l.length p.actions.cap,.slice p.tables.p p.tables.l.length p.tables.cap,.slice p.control.p p.control.l.length p.control.cap,.slice p.emit.p p.emit.l.length p.emit.cap,.slice none 0 0] 81)=X:=hX;obtain⟨⟨SN1,SR⟩,hS⟩:∃r,TV p (Yh p) 0=r:=⟨_,rfl⟩;rw[hS];simp only;have JS:=Zf hS;have Jc:=Zf Tw;clear Tw hS hB T9 SA hXn Re hz hW hN ZF hnl hncb XQ hV hb0 hinW W7 hX;have JX':=Zf hX';clear hX';go_enter func19,ntmps19;go_upto_region 1 with (fail)
 rw[JX'.out,Jc.out];clear JX' c0 c1 c2 c3 c4 c5 c6;go_wp2_with fail;refine qI.out.mono ?_;rintro e W2 ⟨v,l,rfl,⟨x2,TS⟩,hll,hOwn⟩;obtain⟨ip,ic,rfl,Yj,hblk⟩:=hOwn.row;have K2:Kq (fun b=>b=nb∨b=cb) X W2:=by rw[TS];exact Kq.plus _ X x2
 have B2:Ww W2 cb p (.slice none 0 0):=by rw[TS];exact JB.out.plus x2
 have N2:Boxed W2 nb 3 (.int .i64 0):=by rw[TS];exact UN Jn.out x2
 have Z2:∃y,W2=plus (W.setCell ⟨nb,0,none⟩ (.int .i64 ((0:Nat):Int))) y:=by
  refine Yy ?_;obtain⟨y,hy⟩:=JXW.out;rw[TS,hy,ZD];have hb:=Xl W (⟨y.blocks++x2.blocks,x2.draws⟩:ZH);refine⟨hb.os,hb.tape,hb.output,?_,fun k hk=>?_⟩
  ·rw[World.size_setCell];exact hb.size
  ·rw[World.size_setCell]at hk
   refine (hb.block k hk).trans ?_;by_cases e:k=nb
   ·subst e
    exact (Boxed.set (.int .i64 0) JNW.out).symm▸JNW.out
   ·exact (Below.heap_setCell W ⟨nb,0,none⟩ _ k e).symm
 obtain⟨n,hn⟩:=ZB l.length;rw[hn];have Hn:=Zf hn;have Hll:=Zf hll;have HO:=Zf hOwn;have Hrow:=Zf Yj;have Hblk:=Zf hblk;have HK2:=Zf K2;have HB2:=Zf B2;have HN2:=Zf N2;have HZ2:=Zf Z2;have Hle:=Zf (show n≤2097152 by have:=Jlen.out;omega);clear hn hll hOwn Yj hblk K2 B2 N2 Z2 TS qI d0 d1 d2 d3 d4 d5 d6;go_wp2;go_loopw [4,10] (fun _ iv wr=>∃j:Nat,j≤n∧iv=.int .i64 (j:Int)∧(∃y,wr=plus (W.setCell ⟨nb,0,none⟩ (.int .i64 (j:Int))) y)∧Kq (fun b=>b=nb∨b=cb) W2 wr∧Boxed wr nb 3 (.int .i64 (j:Int))∧(∀(i:Nat) (z:It),i<j→(Yh p)[i]?=some z→XL p z=0) ∧
  ∃kv:Value,Ww wr cb p kv∧∀(i a:Nat) (s:Sa),i<j→(Yh p)[i]?=some (.num 6 a 0)→(∀i':Nat,i<i'→i'<j→∀a':Nat,(Yh p)[i']?≠some (.num 6 a' 0))→p.states.l[a]?=some s→Qg wr cb kv (s.keys.l.map (UW p))) (fun _ iv _=>n-(intOf iv).toNat)
 case atStart=>exact⟨0,Zw _,rfl,HZ2.out,Kq.refl _ _,HN2.out,fun i z h=>absurd h (Nat.not_lt_zero i),.slice none 0 0,HB2.out,fun i a s h=>absurd h (Nat.not_lt_zero i)⟩
 case round =>
  obtain⟨j,hj,rfl,hzr,hqr,hnr,hJ,kv,hBr,hKr⟩:=hrel;by_cases ZC:j<n
  ·obtain⟨r,hr⟩:=Yq l j (by rw[Hn.out];exact ZC)
   obtain⟨z,hz⟩:∃z,(Yh p)[j]?=some z:=⟨(Yh p)[j]'(by rw[←Hll.out,Hn.out];exact ZC),List.getElem?_eq_getElem _⟩;obtain⟨pa,Yw,YZ⟩:=Hrow.out j r hr;have hblk:=Hblk.out pa Yw;subst Yw;have SE:=HO.out.like j z r hz hr;have hlies:=HO.out.lies r (Zo hr);have hzm:=Zo hz;have Re:=Js.out;have hnc:=Jnc.out;have hkc:∀(a:Addr) (v:Value),X.heap.size≤a.block→W2.cell? a=some v→wr.cell? a=some v:=fun a v ha hv=>hqr.cell a v (fun h=>asB) hv;have Yx:Yg wr (pa.add (j*17)) r.cs:=fun i v hi=>hkc _ v (by rw[Qi,Qi];exact hblk) (YZ i v hi);have hein:=lE hkc _ hlies.lies hlies.own;have Wk:=I1.out z r hzm SE;have X8:=JN.out z hzm;have QT:∀(a b:Nat) (s:Sa),z=.num 7 a b→p.states.l[a]?=some s→Qg wr cb kv (s.keys.l.map (UW p)):=fun a b s hz7 hs=>by
    obtain⟨i,h1,h2,h3⟩:=gE p j a b (by rw[hz,hz7]);exact hKr i a s h1 h2 h3 hs
   have Tx:=fun (V:World) (hV:∃y,V=plus wr y)=>aH (W.setCell ⟨nb,0,none⟩ (.int .i64 (j:Int))) V p cb kv z r (by obtain⟨y,rfl⟩:=hV;exact Uj hzr y) (by rw[World.size_setCell,Jc.out];exact Zt _) (by obtain⟨y,hy⟩:=JV.out;obtain⟨y2,hy2⟩:=Yy ((show Below w0.heap.size w0 W by rw[hy];exact Xl w0 y).setCell (p:=⟨nb,0,none⟩) Jnl.out (.int .i64 (j:Int)));rw[hy2];exact Jin.out.plus y2) Jz.out JW.out X8 SE (by obtain⟨y,rfl⟩:=hV;exact hein.plus y) Wk (by obtain⟨y,rfl⟩:=hV;exact hBr.plus y)
    (fun a b s h7 hs=>(QT a b s h7 hs).keep fun c v _ hv=>by obtain⟨y,rfl⟩:=hV;exact ZS hv y)
   obtain⟨rk,ra,rb,⟨sk,ZI,ZJ,⟨op,⟨lw,lh,ll⟩,hd,nm,eh,el,ep,ec,eargs⟩,tp,tc,thn,up,uc,els⟩⟩:=r;obtain⟨en,hen⟩:=ZB eargs.length;obtain⟨tn,htn⟩:=ZB thn.length;obtain⟨un,hun⟩:=ZB els.length;simp only[Ri.cs,St.cells,St.kind,St.head,St.name,St.e,St.p,St.cap,St.thn,St.q,St.cbp,St.els,Ex.op,Ex.lit,Ex.head,Ex.name,Ex.hi,Ex.lo,Ex.p,Ex.args,Ex.cap,hen,htn,hun]at Yx Tx;have g0:=Yx.c0 _ rfl;have g1:=Yx.cs 0 _ rfl;have g2:=Yx.cs 1 _ rfl;have g3:=Yx.cs 2 _ rfl;have g4:=Yx.cs 3 _ rfl;have g5:=Yx.cs 4 _ rfl;have g6:=Yx.cs 5 _ rfl;have g7:=Yx.cs 6 _ rfl;have g8:=Yx.cs 7 _ rfl;have g9:=Yx.cs 8 _ rfl;have g10:=Yx.cs 9 _ rfl;have g11:=Yx.cs 10 _ rfl;have g12:=Yx.cs 11 _ rfl;have g13:=Yx.cs 12 _ rfl;have g14:=Yx.cs 13 _ rfl;have g15:=Yx.cs 14 _ rfl;have g16:=Yx.cs 15 _ rfl;have a6:=Zf (EI j n ZC Hle.out);have QZ:=Zf hzr;have QQ:=Zf hqr;have QN:=Zf hnr;have QJ:=Zf hJ;have QB:=Zf hBr;have QK:=Zf hKr;have Qz:=Zf hz;have Qit:=Zf Tx;clear Yx hzr hqr hnr hJ hBr hKr hz Tx hr hkc SE hlies hzm hein Wk X8 QT YZ hblk Re hnc hen htn hun;go_upto_region 4 with (fail)
   have hE:=World.alloc_heap_new wr (.cells #[.int .u8 rk,.int .i64 ra,.int .i64 rb,.int .u8 sk,.string ZI,.string ZJ,.int .u8 op,.int .i64 lw,.int .u64 lh,.int .u64 ll,.string hd,.string nm,.int .i64 eh,.int .i64 el,.slice ep en ec,.slice tp tn tc,.slice up un uc] 49);have hUz:=JI wr (.cells #[.int .u8 rk,.int .i64 ra,.int .i64 rb,.int .u8 sk,.string ZI,.string ZJ,.int .u8 op,.int .i64 lw,.int .u64 lh,.int .u64 ll,.string hd,.string nm,.int .i64 eh,.int .i64 el,.slice ep en ec,.slice tp tn tc,.slice up un uc] 49);obtain⟨U,hU⟩:=ZB (wr.alloc (.cells #[.int .u8 rk,.int .i64 ra,.int .i64 rb,.int .u8 sk,.string ZI,.string ZJ,.int .u8 op,.int .i64 lw,.int .u64 lh,.int .u64 ll,.string hd,.string nm,.int .i64 eh,.int .i64 el,.slice ep en ec,.slice tp tn tc,.slice up un uc] 49));rw[hU]at hE hUz ⊢;obtain⟨eb,heb⟩:=ZB wr.heap.size;rw[heb]at hE ⊢;have qit:=Zf (Qit.out _ hUz);have HUz:=Zf hUz;have HE:=Zf hE;clear hU hE heb hUz g0 g1 g2 g3 g4 g5 g6 g7 g8 g9 g10 g11 g12 g13 g14 g15 g16;go_wp2_with (first|(refine wpList_load_row rfl 49 (.tmp 4) rfl eb rfl 49 #[.int .u8 rk,.int .i64 ra,.int .i64 rb,.int .u8 sk,.string ZI,.string ZJ,.int .u8 op,.int .i64 lw,.int .u64 lh,.int .u64 ll,.string hd,.string nm,.int .i64 eh,.int .i64 el,.slice ep en ec,.slice tp tn tc,.slice up un uc] (0,0) _ HE.out Tryz.underlying49 rfl asC ?_));refine qit.out.mono ?_;rintro e w' (⟨t0,rfl,Xr,Sh,kv',XI,hk1,Yp⟩|⟨t0,rfl,Xr,Sh⟩)
   ·have Sz:Boxed w' nb 3 (.int .i64 (j:Int)):=by
     obtain⟨y,hy⟩:=HUz.out;have q1:Boxed U nb 3 (.int .i64 (j:Int)):=by rw[hy];exact UN QN.out y
     exact ((Sh.low (nb+1) q1.lt (fun b e=>by have:=Jnc.out;omega)).block nb (Nat.lt_succ_self nb)).trans q1
    have n1:=Sz.cell;have n2:=Sz.frozen;have P1:=Zf t0;have P2:=Zf Xr;have P3:=Zf Sh;have P4:=Zf XI;have P5:=Zf hk1;have P6:=Zf Yp;have P7:=Zf Sz;clear t0 Xr Sh XI hk1 Yp Sz qit;go_wp2;exact⟨⟨j+1,ZC,congrArg (Zz .i64) a6.out,nY p W W2 wr U w' nb cb n j z kv kv' _ a6.out JNW.out Jnc.out Qz.out QQ.out HUz.out P2.out P3.out P4.out P7.out P1.out QJ.out QK.out P5.out P6.out⟩,Y9 j n ZC a6.out⟩
   ·have Vw:=F7 p (Yh p) 0 j z Qz.out QJ.out t0
    rw[JS.out]at Vw;injection Vw with hr1 TB
    have P1:=Zf t0;have P2:=Zf Xr;have Pr1:=Zf hr1;have Pr2:=Zf TB;clear t0 Xr Sh hr1 TB qit;go_wp2;have e1:SN1=j:=by have:=Pr1.out;omega
    exact⟨rfl,by rw[Pr2.out,VH P1.out],by rw[e1];exact P2.out⟩
  ·obtain rfl:j=n:=by omega
   have Tz:(Yh p).length=j:=by rw[←Hll.out,Hn.out]
   have Vw:=F6 p (Yh p) 0 (fun i y hi=>hJ i y (by have:=(Zi.1 hi).1;omega) hi);rw[JS.out]at Vw;injection Vw with hr1 TB
   have e1:SN1=j:=asB;have P2:=Zf hzr;have Pe:=Zf e1;have Pr2:=Zf TB;clear hzr hqr hnr hBr hKr hJ hr1 TB e1 Tz;go_wp2;go_end0;exact⟨by rw[Pr2.out];rfl,by rw[Pe.out];exact P2.out⟩
open Go.RowKit Go.Shelf
attribute [local go_sem] Oper.semAt_some
theorem nZ(p:Pr)(w)(Ud:Kp Zx w 29 #[.agg #[.slice p.headers.p p.headers.l.length p.headers.cap,.slice p.metas.p p.metas.l.length p.metas.cap,.slice p.states.p p.states.l.length p.states.cap,.slice p.actions.p p.actions.l.length p.actions.cap,.slice p.tables.p p.tables.l.length p.tables.cap,.slice p.control.p p.control.l.length p.control.cap,.slice p.emit.p p.emit.l.length p.emit.cap]] (.bool false)) :
  Kp Zx w 17 #[.agg #[.slice p.headers.p p.headers.l.length p.headers.cap,.slice p.metas.p p.metas.l.length p.metas.cap,.slice p.states.p p.states.l.length p.states.cap,.slice p.actions.p p.actions.l.length p.actions.cap,.slice p.tables.p p.tables.l.length p.tables.cap,.slice p.control.p p.control.l.length p.control.cap,.slice p.emit.p p.emit.l.length p.emit.cap]] (.tuple #[.int .i64 (-1),.int .i64 2]):=by
 intro y0;have Ud:=Ud.up y0;obtain⟨V,hV⟩:=ZB (plus w y0);rw[hV]at Ud ⊢;clear hV;have ND:=Zf Ud;clear Ud;open Z renaming afc→BX in exact vq
def Ry(p:Pr):Int:=if Vr p then ((Tm p (Yh p) 0).1:Int) else -1
def Um(p:Pr):Int:=if Vr p then (Tm p (Yh p) 0).2 else 2
theorem ew(p:Pr)(w:World)(ZF:p.In w)(hz:p.sz≤1048576):Kp Zx w 17 #[.agg #[.slice p.headers.p p.headers.l.length p.headers.cap,.slice p.metas.p p.metas.l.length p.metas.cap,.slice p.states.p p.states.l.length p.states.cap,.slice p.actions.p p.actions.l.length p.actions.cap,.slice p.tables.p p.tables.l.length p.tables.cap,.slice p.control.p p.control.l.length p.control.cap,.slice p.emit.p p.emit.l.length p.emit.cap]] (.tuple #[.int .i64 (Ry p),.int .i64 (Um p)]):=by
 have h:=ne p w ZF hz;unfold Ry Um;cases hb:Vr p with
 | true =>
  rw[hb]at h;exact n9 p w ZF hz h
 | false =>
  rw[hb]at h;exact nZ p w h
open Go.RowKit Go.Shelf
def Mm(p:Pr):Int:=if Um p=0 then ((TV p (Yh p) 0).1:Int) else Ry p
def Ml(p:Pr):Int:=if Um p=0 then (TV p (Yh p) 0).2 else Um p
theorem CO{p:Pr}(h:Um p=0):Vr p=true∧∀z∈Yh p,Yu p z=0:=by
 unfold Um at h;cases hb:Vr p with
 | true =>
  rw[hb]at h;simp only[if_true]at h;exact⟨rfl,(Ea p (Yh p) 0 h).1⟩
 | false =>
  rw[hb]at h;simp at h
theorem ax(p:Pr)(w:World)(ZF:p.In w)(hz:p.sz≤1048576):Kp Zx w 7 #[.agg #[.slice p.headers.p p.headers.l.length p.headers.cap,.slice p.metas.p p.metas.l.length p.metas.cap,.slice p.states.p p.states.l.length p.states.cap,.slice p.actions.p p.actions.l.length p.actions.cap,.slice p.tables.p p.tables.l.length p.tables.cap,.slice p.control.p p.control.l.length p.control.cap,.slice p.emit.p p.emit.l.length p.emit.cap]] (.tuple #[.int .i64 (Mm p),.int .i64 (Ml p)]):=by
 intro y0;have qC:=(ew p w ZF hz).up y0;have ZF:=ZF.plus y0;obtain⟨V,hV⟩:=ZB (plus w y0);rw[hV]at qC ZF ⊢;clear hV;by_cases h0:Um p=0
 ·rw[Mm,Ml,if_pos h0,if_pos h0]
  obtain⟨hB,Xs⟩:=CO h0;have X8:=yg p V ZF hz hB Xs;have hW:=xL hB;rw[h0]at qC;have qC':=Zf qC;have T1:=Zf (fun (W:World) (b0 nb:Nat) Y8 h1 h2 h3 h4=>aA V W p b0 nb Y8 h1 h2 h3 h4 ZF hz hW X8);obtain⟨⟨SN1,SR⟩,hS⟩:∃r,TV p (Yh p) 0=r:=⟨_,rfl⟩;simp only[hS]at T1 ⊢;clear hS X8 hW hB Xs h0 qC ZF hz;go_enter func7,ntmps7;go_upto_region 1 with (fail)
  have hX:=World.alloc_heap_new V (.cells #[.slice p.headers.p p.headers.l.length p.headers.cap,.slice p.metas.p p.metas.l.length p.metas.cap,.slice p.states.p p.states.l.length p.states.cap,.slice p.actions.p p.actions.l.length p.actions.cap,.slice p.tables.p p.tables.l.length p.tables.cap,.slice p.control.p p.control.l.length p.control.cap,.slice p.emit.p p.emit.l.length p.emit.cap] 30);open Z renaming ad0→BR in exact wY
 ·rw[Mm,Ml,if_neg h0,if_neg h0]
  have YN:(Um p !=0)=true:=as4;obtain⟨CN,hCN⟩:=ZB (Ry p);obtain⟨CE,hCE⟩:=ZB (Um p);rw[hCN,hCE]at qC;rw[hCE]at YN;rw[hCN,hCE];have qC':=Zf qC;clear hCN hCE h0 qC ZF hz;go_enter func7,ntmps7;go_upto_region 1 with (fail)
  open Z renaming ad1→BR in exact wY
theorem CU(a:Int):∀s:St,(s.enc a).length≤s.sz:=fun s=>St.ind (Q:=fun s=>(s.enc a).length≤s.sz) (fun s h1 h2=>by
 have sums:∀l:List St,(∀x∈l,(x.enc a).length≤x.sz)→(St.encs a l).length≤(l.map St.sz).sum:=by
  intro l;induction l with
  | nil=>intro _;simp[St.encs]
  | cons x l ih =>
   intro h;have:=h x (List.mem_cons_self ..);have:=ih (fun y hy=>h y (List.mem_cons_of_mem _ hy));rw[St.encs,Zj,Zm,List.sum_cons];omega
 have e:=St.sz_eq s;have:=sums _ h1;have:=sums _ h2;rw[St.enc_eq,Zk,Zj];omega) s
theorem CW(a:Int):∀l:List St,(St.encs a l).length≤(l.map St.sz).sum
 | []=>by simp[St.encs]
 | x :: l=>by
  have:=CU a x;have:=CW a l;rw[St.encs,Zj,Zm,List.sum_cons];omega
theorem CX(a:Int):∀(l:List St) (k:Nat) (s:St),l[k]?=some s→St.encs a (l.take (k+1))=St.encs a (l.take k)++s.enc a
 | [],k,s,h=>by simp at h
 | x :: l,0,s,h=>by
  obtain rfl:x=s:=asN;simp[St.encs]
 | x :: l,k+1,s,h=>by
  have:=CX a l k s asN;rw[Zs,Zs,St.encs,St.encs,this,List.append_assoc]
theorem aW(l:List St)(k:Nat):((l.take k).map St.sz).sum≤(l.map St.sz).sum:=by
 induction l generalizing k with
 | nil=>simp
 | cons x l ih =>
  cases k with
  | zero=>simp
  | succ k=>have:=ih k;simp only[Zs,Zm,List.sum_cons];omega
def PY(l:List St):Prop:=∀(a:Int) (p:Option Addr) (cap:Nat) (w:World),Xa w 14 St.cells p l→(∀x∈l,x.In w)→(l.map St.sz).sum≤1048576 →
 Calls Zx 25 #[.int .i64 a,.slice p l.length cap] w fun e w'=>∃v,e=.returned v∧XC w w' v (St.encs a l)
theorem Ef(l:List St)(hk:∀s∈l,PY s.thn∧PY s.els):PY l:=by
 intro a p cap w Yj Xj hz;have hl:l.length≤1048576:=auv;have Wf:=Zf Yj;have Sf:=Zf Xj;have ZN:=Zf hz;have SD:=Zf hk;obtain⟨n,hn⟩:=ZB l.length;rw[hn]at hl ⊢;have ZO:=Zf hn;have Yt:=Zf hl;clear Yj Xj hz hk hn hl;go_enter func25,ntmps25;go_wp2;go_loopw [5,6] (fun ov iv wr=>∃k:Nat,k≤n∧iv=.int .i64 (k:Int)∧XC w wr ov (St.encs a (l.take k))) (fun _ iv _=>n-(intOf iv).toNat)
 case atStart=>exact⟨0,Zw _,rfl,FE w⟩
 case round =>
  obtain⟨k,hk,rfl,hI⟩:=hrel;by_cases ZC:k<n
  ·obtain⟨s,hs⟩:=Yq l k asG
   have ZV:=Zo hs;have YB:=YW St.sz l s ZV;have Rh:=St.sz_eq s;obtain⟨pa,Yw,hc⟩:=Wf.out k s hs;have ZF:=Sf.out s ZV;have hF:∀v1 w1 l1,XC w w1 v1 l1→Yg w1 (pa.add (k*14)) s.cells ∧
     Calls Zx 25 #[.int .i64 a,.slice s.p s.thn.length s.cap] w1 (fun e w'=>∃v,e=.returned v∧XC w1 w' v (St.encs a s.thn)) ∧
     Calls Zx 25 #[.int .i64 a,.slice s.q s.els.length s.cbp] w1 (fun e w'=>∃v,e=.returned v∧XC w1 w' v (St.encs a s.els)):=by
    intro v1 w1 l1 h1;obtain⟨z,rfl⟩:=h1.plus;obtain⟨q1,q2⟩:=SD.out s ZV;have hin1:=ZF.plus z;have i1:=St.In.inThn hin1;have i2:=St.In.inEls hin1;have Ue:=ZN.out;exact⟨hc.plus z,q1 a _ _ _ i1.row i1.kids asB,q2 a _ _ _ i2.row i2.kids asB⟩
   obtain⟨Yx,-,-⟩:=hF _ _ _ hI;have hb0:(St.encs a (l.take k)).length+(s.enc a).length≤10000000:=by
    have h1:=CW a (l.take k);have h2:=aW l k;have h3:=ZN.out;have h4:=CU a s;omega
   rw[St.enc_eq,Zk,Zj]at hb0;have he:=Zf (CX a l k s hs);rw[St.enc_eq]at he;generalize St.encs a (l.take k)=X at hI hb0 he;generalize hT:St.encs a s.thn=T at hF hb0 he;generalize hE:St.encs a s.els=E at hF hb0 he;clear hT hE;have WT:=Zf hF;have hI':=Zf hI;have Yi:=Zf hb0;have a6:=Zf (Y7 k n ZC Yt.out);open Z renaming ag8→Gv in exact EZ
  ·obtain rfl:k=n:=by omega
   rw[List.take_of_length_le asV]at hI;exact tD
theorem aa(s:St):PY s.thn∧PY s.els:=St.ind (Q:=fun s=>PY s.thn∧PY s.els) (fun _ h1 h2=>⟨Ef _ h1,Ef _ h2⟩) s
theorem yL(L:Sl St)(a)(w:World)(h:L.In w 14 St.cells (St.In w))(hz:L.size St.sz≤1048576):Calls Zx 25 #[.int .i64 a,.slice L.p L.l.length L.cap] w fun e w'=>∃v,e=.returned v∧XC w w' v (St.encs a L.l) :=
 Ef L.l (fun s _=>aa s) a L.p L.cap w h.row h.kids hz
end Go.Proofs.YtknmeggfokpbjaaGreat

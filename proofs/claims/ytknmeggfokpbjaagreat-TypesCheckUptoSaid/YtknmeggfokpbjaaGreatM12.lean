/-
  WHAT IS PROVED HERE: a part of the proof (made narrower and merged by program; the parts: Vl Vm Vn).
-/
import Derived.Laws.Rows
import Derived.Deep.RegionLaw
import Derived.BigRegion
import Derived.RegionDies
import Derived.Test.YtknmeggfokpbjaaGreatM11
set_option maxRecDepth 100000
set_option maxHeartbeats 8000000
set_option linter.all false
namespace Go.Proofs.YtknmeggfokpbjaaGreat
open Z
open Go.RowKit Go.Proofs.Tryz
open Below renaming refl→Zb
open Ending renaming returned→Zd
open Lib renaming hid→Zf
open List renaming drop_succ_cons→Zg,drop_zero→Zh,take_succ_cons→Zs
open Nat renaming le_refl→Zt,zero_add→Zv
open Go.Proofs.Tryz renaming prog→Zx
open World renaming cell?_setCell_other→ZA
open Go.RowKit
mutual
/-- The literal at the end of signs. -/
def Ex.endL:Ex→Lt
 | .mk op lit _ _ _ _ _ _ l=>if op=1 then lit else Ex.endLs lit l
def Ex.endLs(d:Lt):List Ex→Lt
 | []=>d
 | x :: _=>x.endL
end
theorem Ex.endL_eq(e:Ex):e.endL=if e.op=1 then e.lit else Ex.endLs e.lit e.args:=by cases e;rw[Ex.endL];rfl
mutual
/-- How many signs. -/
def Ex.signs:Ex→Nat
 | .mk op _ _ _ _ _ _ _ l=>if op=1 then 0 else Ex.signss l
def Ex.signss:List Ex→Nat
 | []=>0
 | x :: _=>1+x.signs
end
theorem Ex.signs_eq(e:Ex):e.signs=if e.op=1 then 0 else Ex.signss e.args:=by cases e;rw[Ex.signs];rfl
def Nv(w:World):Nat→Addr→Nat
 | 0,_=>0
 | k+1,a=>match w.cell? a,w.cell? (a.add 8) with
  | some (.int _ op),some (.slice (some q) _ _)=>if op=1 then 0 else 1+Nv w k q
  | _,_=>0
theorem lI:∀(x:Ex) (w:World) (k:Nat) (a:Addr),x.In w→Yg w a x.cells→x.wt≤k→x.chain=true→Nv w k a=x.signs:=fun x=>Ex.ind (Q:=fun x=>∀(w:World) (k:Nat) (a:Addr),x.In w→Yg w a x.cells→x.wt≤k→x.chain=true→Nv w k a=x.signs) (fun e ih w k a ZF hc hk Sb=>by
 cases k with
 | zero=>have:=e.wt_pos;omega
 | succ k =>
  have h0:=hc.c0 _ rfl;have h8:w.cell? (a.add 8)=some (.slice e.p e.args.length e.cap):=hc 8 _ rfl;rw[Ex.signs_eq];unfold Nv;rw[h0,h8];rw[Ex.chain_eq]at Sb;by_cases o:e.op=1
  ·rw[if_pos o]
   cases e.p with
   | none=>rfl
   | some q=>simp[o]
  ·rw[if_neg o]
   have hch2:Ex.chains e.args=true:=by simpa [o]using Sb
   cases hl:e.args with
   | nil=>rw[hl]at hch2;cases hch2
   | cons x l =>
    rw[hl]at hch2;have hx:e.args[0]?=some x:=by rw[hl];rfl
    have ZV:x∈e.args:=as1;obtain⟨_,_,_,_,_,_,_,_,_,Yj,Xj⟩:=ZF;obtain⟨q,hq,YZ⟩:=Yj 0 x hx;rw[hq];have Wk:=Ex.wt_eq e;have Uy:=YW Ex.wt e.args x ZV;have:=ih x ZV w k q (Xj x ZV) (by rw[Nat.zero_mul]at YZ;exact YZ) asB hch2;simp only[o,if_false];rw[this];rfl) x
theorem Ex.free_end:∀e:Ex,e.chain=true→e.free=e.endL.n:=fun e=>Ex.ind (Q:=fun e=>e.chain=true→e.free=e.endL.n) (fun e ih h=>by
 rw[Ex.free_eq,Ex.endL_eq];rw[Ex.chain_eq]at h;by_cases o:e.op=1
 ·rw[if_pos o,if_pos o]
 ·rw[if_neg o,if_neg o]
  have h2:Ex.chains e.args=true:=by simpa [o]using h
  cases hl:e.args with
  | nil=>rw[hl]at h2;cases h2
  | cons x l =>
   rw[hl]at h2;exact ih x as1 h2) e
theorem Ex.end_ok:∀e:Ex,∀w,e.In w→e.endL.Ok:=fun e=>Ex.ind (Q:=fun e=>∀w,e.In w→e.endL.Ok) (fun e ih w h=>by
 rw[Ex.endL_eq];obtain⟨_,_,WU,_,_,_,_,_,_,_,Xj⟩:=h;by_cases o:e.op=1
 ·rw[if_pos o];exact WU
 ·rw[if_neg o]
  cases hl:e.args with
  | nil=>exact WU
  | cons x l=>exact ih x as1 w (Xj x as1)) e
theorem RU{X:World}{b:Nat}{cs:Array Value}{t:TypeId}(h:X.heap[b]?=some (.cells cs t (0,0)))(i:Nat)(u:Value)(cs':Array Value)(e:cs.setIfInBounds i u=cs'):(X.setCell ⟨b,i,none⟩ u).heap[b]?=some (.cells cs' t (0,0)):=by
 rw[heap_setCell_same X b i cs t u h,e]
theorem ge{W:World}{b:Nat}{t:TypeId}(c0 c1 c2 c3 c4 c5 c6 c7 c8 v0 v1 v2 v3 v4 v5 v6 v7 v8:Value)(h:W.heap[b]?=some (.cells #[c0,c1,c2,c3,c4,c5,c6,c7,c8] t (0,0))) :
  (((((((((W.setCell ⟨b,0,none⟩ v0).setCell ⟨b,1,none⟩ v1).setCell ⟨b,2,none⟩ v2).setCell ⟨b,3,none⟩ v3).setCell ⟨b,4,none⟩ v4).setCell ⟨b,5,none⟩ v5).setCell ⟨b,6,none⟩ v6).setCell ⟨b,7,none⟩ v7).setCell ⟨b,8,none⟩ v8).heap[b]?=some (.cells #[v0,v1,v2,v3,v4,v5,v6,v7,v8] t (0,0)):=by
 have h1:=RU h 0 v0 #[v0,c1,c2,c3,c4,c5,c6,c7,c8] rfl;have h2:=RU h1 1 v1 #[v0,v1,c2,c3,c4,c5,c6,c7,c8] rfl;have h3:=RU h2 2 v2 #[v0,v1,v2,c3,c4,c5,c6,c7,c8] rfl;have h4:=RU h3 3 v3 #[v0,v1,v2,v3,c4,c5,c6,c7,c8] rfl;have h5:=RU h4 4 v4 #[v0,v1,v2,v3,v4,c5,c6,c7,c8] rfl;have h6:=RU h5 5 v5 #[v0,v1,v2,v3,v4,v5,c6,c7,c8] rfl;have h7:=RU h6 6 v6 #[v0,v1,v2,v3,v4,v5,v6,c7,c8] rfl;have h8:=RU h7 7 v7 #[v0,v1,v2,v3,v4,v5,v6,v7,c8] rfl;have h9:=RU h8 8 v8 #[v0,v1,v2,v3,v4,v5,v6,v7,v8] rfl;exact h9
theorem gd(W:World)(b:Nat)(v0 v1 v2 v3 v4 v5 v6 v7 v8:Value)(k:Nat)(hk:k≠b):(((((((((W.setCell ⟨b,0,none⟩ v0).setCell ⟨b,1,none⟩ v1).setCell ⟨b,2,none⟩ v2).setCell ⟨b,3,none⟩ v3).setCell ⟨b,4,none⟩ v4).setCell ⟨b,5,none⟩ v5).setCell ⟨b,6,none⟩ v6).setCell ⟨b,7,none⟩ v7).setCell ⟨b,8,none⟩ v8).heap[k]?=W.heap[k]?:=by
 rw[Below.heap_setCell _ _ _ _ hk,Below.heap_setCell _ _ _ _ hk,Below.heap_setCell _ _ _ _ hk,Below.heap_setCell _ _ _ _ hk,Below.heap_setCell _ _ _ _ hk,Below.heap_setCell _ _ _ _ hk,Below.heap_setCell _ _ _ _ hk,Below.heap_setCell _ _ _ _ hk,Below.heap_setCell _ _ _ _ hk]
theorem ga{V W:World}{B b:Nat}(v0 v1 v2 v3 v4 v5 v6 v7 v8:Value)(hB:Below B V W)(hb:B≤b):Below B V (((((((((W.setCell ⟨b,0,none⟩ v0).setCell ⟨b,1,none⟩ v1).setCell ⟨b,2,none⟩ v2).setCell ⟨b,3,none⟩ v3).setCell ⟨b,4,none⟩ v4).setCell ⟨b,5,none⟩ v5).setCell ⟨b,6,none⟩ v6).setCell ⟨b,7,none⟩ v7).setCell ⟨b,8,none⟩ v8):=(Below.setCell (Below.setCell (Below.setCell (Below.setCell (Below.setCell (Below.setCell (Below.setCell (Below.setCell (Below.setCell hB (show B≤b from hb) v0) (show B≤b from hb) v1) (show B≤b from hb) v2) (show B≤b from hb) v3) (show B≤b from hb) v4) (show B≤b from hb) v5) (show B≤b from hb) v6) (show B≤b from hb) v7) (show B≤b from hb) v8)
theorem gh(W:World)(b:Nat)(v0 v1 v2 v3 v4 v5 v6 v7 v8:Value):(((((((((W.setCell ⟨b,0,none⟩ v0).setCell ⟨b,1,none⟩ v1).setCell ⟨b,2,none⟩ v2).setCell ⟨b,3,none⟩ v3).setCell ⟨b,4,none⟩ v4).setCell ⟨b,5,none⟩ v5).setCell ⟨b,6,none⟩ v6).setCell ⟨b,7,none⟩ v7).setCell ⟨b,8,none⟩ v8).heap.size=W.heap.size:=by
 simp only[World.size_setCell]
structure Ng (V:World) (b:Nat) (W:World) (x:Ex):Prop where
 below:Below b V W
 size:b+2≤W.heap.size
 box:W.heap[b]?=some (.cells x.cells.toArray 45 (0,0))
 res:W.heap[b+1]?=some (.cells #[.int .u64 0,.int .u64 0] 40 (0,0))
theorem Sv{W:World}{b:Nat}{cs:Array Value}{t:TypeId}{fr:Nat × Nat}(h:W.heap[b]?=some (.cells cs t fr))(j:Nat)(u:Value)(hj:cs[j]?=some u):W.cell? ⟨b,j,none⟩=some u:=by simp[World.cell?,h,hj]
theorem Ng.at{V:World}{b:Nat}{W:World}{x:Ex}(h:Ng V b W x):Yg W ⟨b,0,none⟩ x.cells:=fun j v hj=>by
 rw[Addr.add_lit,Zv];exact Sv h.box j v (by simpa using hj)
theorem kD(V:World)(e:Ex)(cs:Array Value)(h1:cs.toList=e.cells):∃W,(V.alloc (.cells cs 45)).alloc (.cells #[.int .u64 0,.int .u64 0] 40)=W∧Ng V V.heap.size W e:=by
 have s1:(V.alloc (.cells cs 45)).heap.size=V.heap.size+1:=asD;refine⟨_,rfl,((Zb _ V).alloc (Zt _) _).alloc asB _,asD,?_,?_⟩
 ·rw[Below.heap_alloc _ _ _ asB,←h1]
  exact heap_alloc_new V _
 ·rw[←s1];exact heap_alloc_new _ _
theorem Bf{V:World}{b N:Nat}{W:World}{x:Ex}(hb:V.heap.size=b)(h:Ng V b W x)(ZF:x.In V)(hw:x.wt≤N)(hc:x.chain=true):Nv W N ⟨b,0,none⟩=x.signs:=by
 subst hb;obtain⟨z,hz⟩:=Yy h.below;exact lI x W N _ (by rw[hz];exact ZF.plus z) h.at hw hc
def LA(t:Lt):Value:=.agg #[.int .u64 t.h,.int .u64 t.l]
theorem aF(e:Ex)(w:World)(ZF:e.In w)(Sb:e.chain=true):Kp Zx w 202 #[e.val] (LA e.endL):=by
 intro y0;have ZF:=ZF.plus y0;obtain⟨V,hV⟩:=ZB (plus w y0);rw[hV]at ZF ⊢;clear hV;obtain⟨b,hb⟩:=ZB V.heap.size;obtain⟨N,hN⟩:=ZB e.wt;obtain⟨L,hL⟩:=ZB e.endL;rw[hL];have h0:Hid (e.In V∧e.chain=true∧e.endL=L∧e.wt≤N):=Zf ⟨ZF,Sb,hL,asB⟩;have Yi:=Zf hb;clear ZF Sb hL hN hb;obtain⟨op,⟨lw,lh,ll⟩,hd,nm,eh,el,ep,ec,eargs⟩:=e;show Calls Zx 202 #[.agg #[.int .u8 op,.int .i64 lw,.int .u64 lh,.int .u64 ll,.string hd,.string nm,.int .i64 eh,.int .i64 el,.slice ep eargs.length ec]] V _
 go_enter func202,ntmps202;go_wp2_with fail;obtain⟨W,hW,hI⟩:=kD V (.mk op ⟨lw,lh,ll⟩ hd nm eh el ep ec eargs) #[.int .u8 op,.int .i64 lw,.int .u64 lh,.int .u64 ll,.string hd,.string nm,.int .i64 eh,.int .i64 el,.slice ep eargs.length ec] rfl;rw[hW];rw[Yi.out]at hI ⊢;have hI':=Zf hI;clear hW hI;go_loopw [3] (fun _ wr=>∃x:Ex,Hid (x.In V∧x.chain=true∧x.endL=L∧x.wt≤N)∧Hid (Ng V b wr x)) (fun _ wr=>Nv wr N ⟨b,0,none⟩)
 case atStart=>exact⟨_,h0,hI'⟩
 case round =>
  clear h0 hI';obtain⟨x,hx,hF⟩:=hrel;have V9:=hF.out.at;obtain⟨z,hz⟩:=Yy (Yi.out.symm▸hF.out.below);have hfar:=Zf (Bf Yi.out hF.out hx.out.1 hx.out.2.2.2 hx.out.2.1);have hsg:=Ex.signs_eq x;have SC:=Ex.endL_eq x;have Uv:=Ex.chain_eq x;rw[hx.out.2.1]at Uv;rw[hx.out.2.2.1]at SC;obtain⟨_,_,_,_,_,_,_,_,_,Yj,Xj⟩:=hx.out.1;have Wk:=Ex.wt_eq x;have hxw:=hx.out.2.2.2;have d0:=V9.c0 _ rfl;have d1:wr.cell? ⟨b,1,none⟩=some (.int .i64 x.lit.w):=Sv hF.out.box 1 _ rfl;have d2:wr.cell? ⟨b,2,none⟩=some (.int .u64 x.lit.h):=Sv hF.out.box 2 _ rfl;have d3:wr.cell? ⟨b,3,none⟩=some (.int .u64 x.lit.l):=Sv hF.out.box 3 _ rfl;have d4:wr.cell? ⟨b,4,none⟩=some (.string x.head):=Sv hF.out.box 4 _ rfl;have d5:wr.cell? ⟨b,5,none⟩=some (.string x.name):=Sv hF.out.box 5 _ rfl;have d6:wr.cell? ⟨b,6,none⟩=some (.int .i64 x.hi):=Sv hF.out.box 6 _ rfl;have d7:wr.cell? ⟨b,7,none⟩=some (.int .i64 x.lo):=Sv hF.out.box 7 _ rfl;have d8:wr.cell? ⟨b,8,none⟩=some (.slice x.p x.args.length x.cap):=Sv hF.out.box 8 _ rfl;by_cases o:x.op=1
  ·have e0:=Sv hF.out.res 0 _ rfl
   have e1:=Sv hF.out.res 1 _ rfl;have ff:=fun j=>frozen_of_row wr (b+1) j _ _ hF.out.res;rw[if_pos o]at SC;have o2:(x.op==1)=true:=by simpa using o
   have hel':=Zf SC;clear hsg Uv SC Yj Xj Wk hxw V9 hz;rw[o]at d0;go_wp2;have r1:=RU hF.out.res 0 (.int .u64 x.lit.h) #[.int .u64 x.lit.h,.int .u64 0] rfl;have r2:=RU r1 1 (.int .u64 x.lit.l) #[.int .u64 x.lit.h,.int .u64 x.lit.l] rfl;have g0:=Sv r2 0 (.int .u64 x.lit.h) rfl;have g1:=Sv r2 1 (.int .u64 x.lit.l) rfl;have hbel:Below b V ((wr.setCell ⟨b+1,0,none⟩ (.int .u64 x.lit.h)).setCell ⟨b+1,1,none⟩ (.int .u64 x.lit.l)):=(Below.setCell (hF.out.below.setCell (show b≤b+1 by omega) _) (show b≤b+1 by omega) _);clear r1 r2;generalize (wr.setCell ⟨b+1,0,none⟩ (.int .u64 x.lit.h)).setCell ⟨b+1,1,none⟩ (.int .u64 x.lit.l)=X at g0 g1 hbel ⊢;refine bodyPost_ret (v:=LA x.lit) (by simp[LA,results,Tryz.results202,go_sem,g0,g1]) rfl ⟨by rw[hel'.out],Yy (Yi.out.symm▸hbel)⟩
  ·have o2:(x.op==1)=false:=by simpa using o
   have o3:(x.op !=1)=true:=by simpa using o
   rw[if_neg o]at hsg SC;rw[o2,Bool.false_or]at Uv;cases hl:x.args with
   | nil=>rw[hl]at Uv;cases Uv
   | cons y ys =>
    have hy0:x.args[0]?=some y:=by rw[hl];rfl
    have hym:y∈x.args:=as1;obtain⟨q,hq,Sc⟩:=Yj 0 y hy0;have hyin:=Xj y hym;have Uy:=YW Ex.wt x.args y hym;rw[Nat.zero_mul]at Sc;replace Sc:Yg V q y.cells:=Sc;have Yx:=YR hz Sc;have XQ:x.args.length=ys.length+1:=by rw[hl];rfl
    rw[hl]at hsg SC Uv;replace hsg:x.signs=1+y.signs:=hsg;replace SC:L=y.endL:=SC;replace Uv:true=y.chain:=Uv;have hy:Hid (y.In V∧y.chain=true∧y.endL=L∧y.wt≤N):=Zf ⟨hyin,Uv.symm,SC.symm,asB⟩;have f0:wr.cell? q=some (.int .u8 y.op):=Yx.c0 _ rfl;have f1:=Yx.cs 0 _ rfl;have f2:=Yx.cs 1 _ rfl;have f3:=Yx.cs 2 _ rfl;have f4:=Yx.cs 3 _ rfl;have f5:=Yx.cs 4 _ rfl;have f6:=Yx.cs 5 _ rfl;have f7:=Yx.cs 6 _ rfl;have f8:=Yx.cs 7 _ rfl;have ff:=fun j=>frozen_of_row wr b j _ _ hF.out.box;have hsg':=Zf hsg;have hnext:Ng V b (((((((((wr.setCell ⟨b,0,none⟩ (.int .u8 y.op)).setCell ⟨b,1,none⟩ (.int .i64 y.lit.w)).setCell ⟨b,2,none⟩ (.int .u64 y.lit.h)).setCell ⟨b,3,none⟩ (.int .u64 y.lit.l)).setCell ⟨b,4,none⟩ (.string y.head)).setCell ⟨b,5,none⟩ (.string y.name)).setCell ⟨b,6,none⟩ (.int .i64 y.hi)).setCell ⟨b,7,none⟩ (.int .i64 y.lo)).setCell ⟨b,8,none⟩ (.slice y.p y.args.length y.cap)) y:=⟨ga _ _ _ _ _ _ _ _ _ hF.out.below (Zt b),by rw[gh];exact hF.out.size,ge _ _ _ _ _ _ _ _ _ _ _ _ _ _ _ _ _ _ hF.out.box,by rw[gd _ _ _ _ _ _ _ _ _ _ _ _ (by omega)];exact hF.out.res⟩;have hnext':=Zf hnext;rw[hq,XQ]at d8;have hl1:(0:Int)<((ys.length+1:Nat):Int):=asB;obtain⟨M,hM⟩:=ZB (ys.length+1);rw[hM]at d8 hl1;have XK:0<M:=asB;clear hsg Uv SC Yj Xj Wk hxw V9 hz hl hy0 hym Sc Yx XQ Uy hyin hnext hM hq hx;go_wp2;refine⟨⟨y,hy,hnext'⟩,?_⟩;rw[hfar.out,hsg'.out,Bf Yi.out hnext'.out hy.out.1 hy.out.2.2.2 hy.out.2.1];omega
def WA(t:Ty)(n:Nat)(k:Int):Int:=if t.tr then 9 else if t.fr then (if WI n k then 0 else 5) else if t.w=k then 0 else 10
theorem aE(e:Ex)(k)(w:World)(ZF:e.In w)(Sb:e.chain=true):WR Zx 194 #[LA e.endL,.int .i64 k] (.bool (WI e.free k)):=by
 have VS:=Ex.end_ok e w ZF;have h:=Fv e.endL.n k (Lt.n_lt VS);rw[←Lt.nv_eq VS]at h;rw[Ex.free_end e Sb];exact h
def Yl(r:Int)(v:Value):Ending:=if r=0 then .returned v else YJ r
theorem Id(t:Ty)(e:Ex)(k)(w:World)(ZF:e.In w)(Sb:t.fr=true→e.chain=true) :
  Yr Zx w 165 #[t.v,e.val,.int .i64 k] (Yl (WA t e.free k) (.tuple #[])):=by
 intro y0;have kf:=fun h=>(aF e w ZF (Sb h)).up y0;have kn:=fun h=>aE e k w ZF (Sb h);obtain⟨V,hV⟩:=ZB (plus w y0);rw[hV]at kf ⊢;clear hV ZF Sb;obtain⟨op,⟨lw,lh,ll⟩,hd,nm,eh,el,ep,ec,eargs⟩:=e;obtain⟨F,hF⟩:=ZB (Ex.free (.mk op ⟨lw,lh,ll⟩ hd nm eh el ep ec eargs));obtain⟨L,hL⟩:=ZB (LA (Ex.endL (.mk op ⟨lw,lh,ll⟩ hd nm eh el ep ec eargs)));rw[hF,hL]at kn;rw[hL]at kf;rw[hF];obtain⟨h5,h6,hL2⟩:∃h l,L=.agg #[.int .u64 h,.int .u64 l]:=⟨_,_,hL.symm⟩;subst hL2;simp only[Ex.val,Ex.cells,Ex.op,Ex.lit,Ex.head,Ex.name,Ex.hi,Ex.lo,Ex.p,Ex.args,Ex.cap]at kf ⊢;obtain⟨M,hM⟩:=ZB eargs.length;rw[hM]at kf ⊢;obtain⟨tw,tt,tf⟩:=t;simp only[Ty.v]at kf kn ⊢;have kf':=Zf kf;have kn':=Zf kn;clear kf kn hF hL hM;cases tt with
 | true =>
  rw[show Yl (WA ⟨tw,true,tf⟩ F k) (.tuple #[])=YJ 9 from rfl];clear kf' kn';go_enter func165,ntmps165;go_wp2_with fail;obtain⟨W,yy,hW,⟨z,hz⟩,ca,cb⟩:=Xu V _ _ 75 45;rw[hW];have ZN:=Zf hz;clear hW ca cb hz;refine (UD W 9 yy).mono ?_;rintro r w' ⟨rfl,x,rfl⟩;go_wp2;exact⟨rfl,rfl,asU⟩
 | false =>
  cases tf with
  | true =>
   obtain⟨B,hB⟩:=ZB (WI F k);have VI:Yl (WA ⟨tw,false,true⟩ F k) (.tuple #[])=Yl (if B then 0 else 5) (.tuple #[]):=by rw[←hB];rfl
   rw[VI];have kf:=kf'.out rfl;have kn:=kn'.out rfl;rw[hB]at kn;have kf2:=Zf kf;have kn2:=Zf kn;clear kf kn kf' kn' hB VI;go_enter func165,ntmps165;go_wp2_with fail;obtain⟨W,yy,hW,⟨z,hz⟩,ca,cb⟩:=Xu V _ _ 75 45;rw[hW];have c2:=ca 2 _ rfl;have d0:=cb 0 _ rfl;have d1:=cb 1 _ rfl;have d2:=cb 2 _ rfl;have d3:=cb 3 _ rfl;have d4:=cb 4 _ rfl;have d5:=cb 5 _ rfl;have d6:=cb 6 _ rfl;have d7:=cb 7 _ rfl;have d8:=cb 8 _ rfl;have kf3:=Zf (ZK hz kf2.out);have ZN:=Zf hz;clear hW ca cb hz kf2;refine (Vq W 9 yy).mono ?_;rintro r w' ⟨rfl,x,rfl⟩;rw[ZD];go_wp2_with fail;refine (kf3.out _).mono ?_;rintro r w' ⟨rfl,x2,rfl⟩;clear kf3;go_wp2_with fail;refine (kn2.out.at W x2).mono ?_;rintro r w' ⟨rfl,x3,rfl⟩;clear kn2;go_wp2_with fail;cases B with
   | true =>
    refine (Vq W 5 x3).mono ?_;rintro r w' ⟨rfl,x4,rfl⟩;go_wp2;refine bodyPost_ret (results_none rfl _ _ _) rfl ?_;exact⟨rfl,asU⟩
   | false =>
    refine (UD W 5 x3).mono ?_;rintro r w' ⟨rfl,x4,rfl⟩;go_wp2;exact⟨rfl,rfl,asU⟩
  | false =>
   obtain⟨B,hB⟩:=ZB (tw==k);have VI:Yl (WA ⟨tw,false,false⟩ F k) (.tuple #[])=Yl (if B then 0 else 10) (.tuple #[]):=by
    rw[←hB];by_cases e:tw=k
    ·subst e;simp[WA]
    ·simp[WA,e]
   rw[VI];clear kf' kn' VI;go_enter func165,ntmps165;go_wp2_with fail;obtain⟨W,yy,hW,⟨z,hz⟩,ca,cb⟩:=Xu V _ _ 75 45;rw[hW];have c0:=ca 0 _ rfl;have c2:=ca 2 _ rfl;have ZN:=Zf hz;clear hW ca cb hz;refine (Vq W 9 yy).mono ?_;rintro r w' ⟨rfl,x,rfl⟩;rw[ZD];go_wp2_with fail;cases B with
   | true =>
    refine (Vq W 10 _).mono ?_;rintro r w' ⟨rfl,x4,rfl⟩;go_wp2;go_end0;exact⟨rfl,asU⟩
   | false =>
    refine (UD W 10 _).mono ?_;rintro r w' ⟨rfl,x4,rfl⟩;go_wp2;exact⟨rfl,rfl,asU⟩
theorem Tb(V:World)(c d f:Array Value)(t u s:TypeId):∃W y,((V.alloc (.cells c t)).alloc (.cells d u)).alloc (.cells f s)=plus W y∧(∃z,W=plus V z)∧V.heap.size+1+1<W.heap.size∧(∀o v,c[o]?=v→∀y,(plus W y).cell? ⟨V.heap.size,o,none⟩=v)∧(∀o v,d[o]?=v→∀y,(plus W y).cell? ⟨V.heap.size+1,o,none⟩=v)∧(∀o v,f[o]?=v→∀y,(plus W y).cell? ⟨V.heap.size+1+1,o,none⟩=v)∧(∀y o,(plus W y).frozen? ⟨V.heap.size+1+1,o,none⟩=false):=by
 obtain⟨W,hW,hB,hs,ca,cb,cc,fa,fb,fc⟩:=Su V c d f t u s;exact⟨W,⟨#[],W.drawn⟩,by rw[Yk,hW],Yy hB,asB,ca,cb,cc,fc⟩
theorem xE{V U:World}(hU:∃z,U=plus V z)(b:Nat)(hb:V.heap.size≤b)(u0 u1 u2 v0 v1 v2:Value)(r0:U.cell? ⟨b,0,none⟩=some u0)(r1:U.cell? ⟨b,1,none⟩=some u1)(r2:U.cell? ⟨b,2,none⟩=some u2) :
  ∃X,(((U.setCell ⟨b,0,none⟩ v0).setCell ⟨b,1,none⟩ v1).setCell ⟨b,2,none⟩ v2)=X∧X.cell? ⟨b,0,none⟩=some v0∧X.cell? ⟨b,1,none⟩=some v1∧X.cell? ⟨b,2,none⟩=some v2∧∃x,X=plus V x:=by
 have n01:(⟨b,0,none⟩:Addr)≠⟨b,1,none⟩:=asD;have n02:(⟨b,0,none⟩:Addr)≠⟨b,2,none⟩:=asD;have n12:(⟨b,1,none⟩:Addr)≠⟨b,2,none⟩:=asD;refine⟨_,rfl,?_,?_,?_,?_⟩
 ·rw[ZA (h:=n02.symm),ZA (h:=n01.symm)]
  exact World.cell?_setCell_same _ _ _ r0
 ·rw[ZA (h:=n12.symm)]
  exact World.cell?_setCell_same _ _ _ ((ZA _ _ _ _ n01).trans r1)
 ·exact World.cell?_setCell_same _ _ _ ((ZA _ _ _ _ n12).trans ((ZA _ _ _ _ n02).trans r2))
 ·obtain⟨z,rfl⟩:=hU
  exact Yy ((((Xl V z).setCell as9 v0).setCell as9 v1).setCell as9 v2)
structure RB (V:World) (b:Nat) (U:World):Prop where
 up:∃z,U=plus V z
 low:V.heap.size≤b
 r0:U.cell? ⟨b,0,none⟩=some (.int .i64 0)
 r1:U.cell? ⟨b,1,none⟩=some (.bool false)
 r2:U.cell? ⟨b,2,none⟩=some (.bool false)
 rf:∀o,U.frozen? ⟨b,o,none⟩=false
theorem RB.set{V U:World}{b:Nat}(h:RB V b U)(t:Ty):∃X,(((U.setCell ⟨b,0,none⟩ (.int .i64 t.w)).setCell ⟨b,1,none⟩ (.bool t.tr)).setCell ⟨b,2,none⟩ (.bool t.fr))=X∧X.cell? ⟨b,0,none⟩=some (.int .i64 t.w)∧X.cell? ⟨b,1,none⟩=some (.bool t.tr)∧X.cell? ⟨b,2,none⟩=some (.bool t.fr)∧∃x,X=plus V x :=
 xE h.up b h.low _ _ _ _ _ _ h.r0 h.r1 h.r2
theorem VB{V W:World}{b:Nat}(hz:∃z,W=plus V z)(hb:V.heap.size≤b)(cc:∀o v,(#[.int .i64 0,.bool false,.bool false]:Array Value)[o]?=v→∀y,(plus W y).cell? ⟨b,o,none⟩=v)(fc:∀y o,(plus W y).frozen? ⟨b,o,none⟩=false)(y:ZH):RB V b (plus W y):=by
 obtain⟨z,rfl⟩:=hz;exact⟨⟨_,ZD _ _ _⟩,hb,cc 0 _ rfl y,cc 1 _ rfl y,cc 2 _ rfl y,fc y⟩
theorem aK(e:Ex)(t:Ty)(w)(hw:Yz t=0→e.hi<t.w→wrap64 (wrap64 (e.hi-e.lo)+1)=e.hi-e.lo+1) :
  Yr Zx w 50 #[e.val,t.v] (Yl (V0 e.op e.hi e.lo t).1 (V0 e.op e.hi e.lo t).2.v):=by
 have kw:=Mk t w;intro y0;have kw:=kw.up y0;obtain⟨V,hV⟩:=ZB (plus w y0);rw[hV]at kw ⊢;clear hV;obtain⟨op,⟨lw,lh,ll⟩,hd,nm,eh,el,ep,ec,eargs⟩:=e;simp only[Ex.val,Ex.cells,Ex.op,Ex.lit,Ex.head,Ex.name,Ex.hi,Ex.lo,Ex.p,Ex.args,Ex.cap]at hw ⊢;obtain⟨M,hM⟩:=ZB eargs.length;rw[hM];obtain⟨tw,tt,tf⟩:=t;obtain⟨E,hE⟩:=ZB (Yl (V0 op eh el ⟨tw,tt,tf⟩).1 (V0 op eh el ⟨tw,tt,tf⟩).2.v);rw[hE];have Wc:=Zf hE;clear hE;simp only[Ty.v]at hw kw ⊢;have Xr:=Zf hw;have kw':=Zf kw;clear hM hw kw;by_cases o9:op=9
 ·subst o9
  cases tt with
  | true =>
   obtain rfl:Zd (.agg #[.int .i64 tw,.bool true,.bool tf])=E:=Wc.out;go_enter func50,ntmps50;go_wp2_with fail;obtain⟨W,yy,hW,⟨z,hz⟩,YB,ca,cb,cc,fc⟩:=Tb V _ _ _ 45 75 75;rw[hW];have a6:=ca 6 _ rfl;have a7:=ca 7 _ rfl;have b0:=cb 0 _ rfl;have b1:=cb 1 _ rfl;have b2:=cb 2 _ rfl;have hR:=Zf (VB ⟨z,hz⟩ (show V.heap.size≤V.heap.size+1+1 by omega) cc fc);have kw2:=Zf (Xf hz kw'.out);have ZN:=Zf hz;clear hW ca cb cc fc hz YB kw';refine (Vq W 9 yy).mono ?_;rintro r w' ⟨rfl,x1,rfl⟩;rw[ZD];obtain⟨XX,hXX⟩:=ZB ((⟨yy.blocks++x1.blocks,x1.draws⟩:ZH):ZH);rw[hXX];clear hXX;have YS:=hR.out XX;have r0:=YS.r0;have r1:=YS.r1;have r2:=YS.r2;have rf:=YS.rf;have Vu:=Zf YS;clear YS hR;go_wp2;obtain⟨X,hX,g0,g1,g2,hV⟩:=Vu.out.set ⟨tw,true,tf⟩;simp only at hX;rw[hX];clear hX;exact bodyPost_ret (v:=.agg #[.int .i64 tw,.bool true,.bool tf]) aud rfl ⟨rfl,hV⟩
  | false =>
   obtain rfl:YJ 9=E:=Wc.out;go_enter func50,ntmps50;go_wp2_with fail;obtain⟨W,yy,hW,⟨z,hz⟩,YB,ca,cb,cc,fc⟩:=Tb V _ _ _ 45 75 75;rw[hW];have a6:=ca 6 _ rfl;have a7:=ca 7 _ rfl;have b0:=cb 0 _ rfl;have b1:=cb 1 _ rfl;have b2:=cb 2 _ rfl;have hR:=Zf (VB ⟨z,hz⟩ (show V.heap.size≤V.heap.size+1+1 by omega) cc fc);have kw2:=Zf (Xf hz kw'.out);have ZN:=Zf hz;clear hW ca cb cc fc hz YB kw';refine (UD W 9 yy).mono ?_;rintro r w' ⟨rfl,x9,rfl⟩;go_wp2;exact⟨rfl,rfl,asU⟩
 have m9:(op==9)=false:=by simpa using o9
 by_cases o10:op=10
 ·subst o10
  cases tt with
  | true =>
   obtain rfl:YJ 9=E:=Wc.out;rw[show (if Yz ⟨tw,true,tf⟩=0 then Zd (.int .i64 tw) else YJ (Yz ⟨tw,true,tf⟩))=YJ 9 from rfl]at kw';go_enter func50,ntmps50;go_wp2_with fail;obtain⟨W,yy,hW,⟨z,hz⟩,YB,ca,cb,cc,fc⟩:=Tb V _ _ _ 45 75 75;rw[hW];have a6:=ca 6 _ rfl;have a7:=ca 7 _ rfl;have b0:=cb 0 _ rfl;have b1:=cb 1 _ rfl;have b2:=cb 2 _ rfl;have hR:=Zf (VB ⟨z,hz⟩ (show V.heap.size≤V.heap.size+1+1 by omega) cc fc);have kw2:=Zf (Xf hz kw'.out);have ZN:=Zf hz;clear hW ca cb cc fc hz YB kw';have kwd:=Zf (kw2.out ⟨yy.blocks,yy.draws+1⟩);clear kw2;go_region_dies;all_goals
    refine (kwd.out).mono ?_;rintro r w' ⟨rfl,x1,rfl⟩;exact⟨rfl,rfl,asO⟩
  | false =>
   cases tf with
   | true =>
    obtain rfl:YJ 10=E:=Wc.out;rw[show (if Yz ⟨tw,false,true⟩=0 then Zd (.int .i64 tw) else YJ (Yz ⟨tw,false,true⟩))=YJ 10 from rfl]at kw';go_enter func50,ntmps50;go_wp2_with fail;obtain⟨W,yy,hW,⟨z,hz⟩,YB,ca,cb,cc,fc⟩:=Tb V _ _ _ 45 75 75;rw[hW];have a6:=ca 6 _ rfl;have a7:=ca 7 _ rfl;have b0:=cb 0 _ rfl;have b1:=cb 1 _ rfl;have b2:=cb 2 _ rfl;have hR:=Zf (VB ⟨z,hz⟩ (show V.heap.size≤V.heap.size+1+1 by omega) cc fc);have kw2:=Zf (Xf hz kw'.out);have ZN:=Zf hz;clear hW ca cb cc fc hz YB kw';have kwd:=Zf (kw2.out ⟨yy.blocks,yy.draws+1⟩);clear kw2;go_region_dies;all_goals
     refine (kwd.out).mono ?_;rintro r w' ⟨rfl,x1,rfl⟩;exact⟨rfl,rfl,asO⟩
   | false =>
    rw[show (if Yz ⟨tw,false,false⟩=0 then Zd (.int .i64 tw) else YJ (Yz ⟨tw,false,false⟩))=.returned (.int .i64 tw) from rfl]at kw';by_cases q:eh<tw
    ·have hs:Yl (V0 10 eh el ⟨tw,false,false⟩).1 (V0 10 eh el ⟨tw,false,false⟩).2.v=.returned (.agg #[.int .i64 (eh-el+1),.bool false,.bool false]):=by
      have q2:¬tw≤eh:=asB;simp[V0,Yz,q2,Yl,XN,Ty.v]
     obtain rfl:=hs.symm.trans Wc.out;clear hs;go_enter func50,ntmps50;go_wp2_with fail;obtain⟨W,yy,hW,⟨z,hz⟩,YB,ca,cb,cc,fc⟩:=Tb V _ _ _ 45 75 75;rw[hW];have a6:=ca 6 _ rfl;have a7:=ca 7 _ rfl;have b0:=cb 0 _ rfl;have b1:=cb 1 _ rfl;have b2:=cb 2 _ rfl;have hR:=Zf (VB ⟨z,hz⟩ (show V.heap.size≤V.heap.size+1+1 by omega) cc fc);have kw2:=Zf (Xf hz kw'.out);have ZN:=Zf hz;clear hW ca cb cc fc hz YB kw';refine Wj 5 asC asC ?_;simp only[Zs,List.take_zero,Zg,Zh];repeat (go_big_quiet_step (first|(with_reducible exact kw2.out _)))
     refine wpQuiet_nil ?_;rintro _ ⟨y1,rfl⟩;go_wp2_with fail;refine (Vq W 5 y1).mono ?_;rintro r w' ⟨rfl,x1,rfl⟩;rw[ZD];have hwr:=Zf (Xr.out rfl q);clear kw2;obtain⟨XX,hXX⟩:=ZB ((⟨y1.blocks++x1.blocks,x1.draws⟩:ZH):ZH);rw[hXX];clear hXX;go_wp2_with fail;rw[hwr.out];refine (OS (eh-el+1) W XX).mono ?_;rintro r w' ⟨rfl,x2,rfl⟩;rw[ZD];obtain⟨XY,hXY⟩:=ZB ((⟨XX.blocks++x2.blocks,x2.draws⟩:ZH):ZH);rw[hXY];clear hXY hwr;have YS:=hR.out XY;have r0:=YS.r0;have r1:=YS.r1;have r2:=YS.r2;have rf:=YS.rf;have Vu:=Zf YS;clear YS hR;simp only[Ty.v,XN];go_wp2;obtain⟨X,hX,g0,g1,g2,hV⟩:=Vu.out.set (XN (eh-el+1));simp only[XN]at hX g0 g1 g2;rw[hX];clear hX;exact bodyPost_ret (v:=.agg #[.int .i64 (eh-el+1),.bool false,.bool false]) aud rfl ⟨rfl,hV⟩
    ·obtain rfl:YJ 5=E:=by
      have hs:Yl (V0 10 eh el ⟨tw,false,false⟩).1 (V0 10 eh el ⟨tw,false,false⟩).2.v=YJ 5:=by
       have q2:tw≤eh:=asB;simp[V0,Yz,q2,Yl]
      exact hs.symm.trans Wc.out
     go_enter func50,ntmps50;go_wp2_with fail;obtain⟨W,yy,hW,⟨z,hz⟩,YB,ca,cb,cc,fc⟩:=Tb V _ _ _ 45 75 75;rw[hW];have a6:=ca 6 _ rfl;have b0:=cb 0 _ rfl;have b1:=cb 1 _ rfl;have b2:=cb 2 _ rfl;have kw2:=Zf (Xf hz kw'.out);have ZN:=Zf hz;clear hW ca cb cc fc hz YB kw';refine Wj 5 asC asC ?_;simp only[Zs,List.take_zero,Zg,Zh];repeat (go_big_quiet_step (first|(with_reducible exact kw2.out _)))
     refine wpQuiet_nil ?_;rintro _ ⟨y1,rfl⟩;clear kw2;go_wp2_with fail;rw[show decide (eh<tw)=false by simpa using q];refine (UD W 5 y1).mono ?_;rintro r w' ⟨rfl,x1,rfl⟩;go_wp2;exact⟨rfl,rfl,asU⟩
 have m10:(op==10)=false:=by simpa using o10
 have ho:(V0 op eh el ⟨tw,tt,tf⟩)=if tt then (9,XH) else (0,⟨tw,tt,tf⟩):=by
  simp[V0,o9,o10]
 rw[ho]at Wc;cases tt with
 | true =>
  obtain rfl:YJ 9=E:=Wc.out;go_enter func50,ntmps50;go_wp2_with fail;obtain⟨W,yy,hW,⟨z,hz⟩,YB,ca,cb,cc,fc⟩:=Tb V _ _ _ 45 75 75;rw[hW];have b0:=cb 0 _ rfl;have b1:=cb 1 _ rfl;have b2:=cb 2 _ rfl;have ZN:=Zf hz;clear hW ca cb cc fc hz YB kw';refine (UD W 9 yy).mono ?_;rintro r w' ⟨rfl,x9,rfl⟩;go_wp2;exact⟨rfl,rfl,asU⟩
 | false =>
  obtain rfl:Zd (.agg #[.int .i64 tw,.bool false,.bool tf])=E:=Wc.out;go_enter func50,ntmps50;go_wp2_with fail;obtain⟨W,yy,hW,⟨z,hz⟩,YB,ca,cb,cc,fc⟩:=Tb V _ _ _ 45 75 75;rw[hW];have b0:=cb 0 _ rfl;have b1:=cb 1 _ rfl;have b2:=cb 2 _ rfl;have hR:=Zf (VB ⟨z,hz⟩ (show V.heap.size≤V.heap.size+1+1 by omega) cc fc);have ZN:=Zf hz;clear hW ca cb cc fc hz YB kw';refine (Vq W 9 yy).mono ?_;rintro r w' ⟨rfl,x1,rfl⟩;rw[ZD];obtain⟨XX,hXX⟩:=ZB ((⟨yy.blocks++x1.blocks,x1.draws⟩:ZH):ZH);rw[hXX];clear hXX;have YS:=hR.out XX;have r0:=YS.r0;have r1:=YS.r1;have r2:=YS.r2;have rf:=YS.rf;have Vu:=Zf YS;clear YS hR;go_wp2;obtain⟨X,hX,g0,g1,g2,hV⟩:=Vu.out.set ⟨tw,false,tf⟩;simp only at hX;rw[hX];clear hX;exact bodyPost_ret (v:=.agg #[.int .i64 tw,.bool false,.bool tf]) aud rfl ⟨rfl,hV⟩
end Go.Proofs.YtknmeggfokpbjaaGreat

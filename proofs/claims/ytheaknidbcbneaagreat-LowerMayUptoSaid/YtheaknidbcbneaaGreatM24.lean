/-
  WHAT IS PROVED HERE: a part of the proof (made narrower and merged by program; the parts: Vm Vn Vo).
-/
import Derived.RegionDies
import Derived.Test.YtheaknidbcbneaaGreatM23
set_option maxRecDepth 100000
set_option maxHeartbeats 8000000
set_option linter.all false
namespace Go.Proofs.YtheaknidbcbneaaGreat
open Go.RowKit Go.Proofs.Tryz
open Ending renaming returned→Zf
open Lib renaming hid→Zg
open List renaming getElem?_eq_some_iff→Zj,mem_of_getElem?→Zl
open Go.Proofs.Tryz renaming prog→Zr
open World renaming cell?_setCell_other→Zu
open Go.RowKit
def XR(t:Ty)(n:Nat)(k:Int):Int:=if t.tr then 9 else if t.fr then (if VU n k then 0 else 5) else if t.w=k then 0 else 10
theorem Ff(e:Ex)(k)(w:World)(ZQ:e.In w)(hch:e.chain=true):Xp Zr 32 #[SJ e.endL,.int .i64 k] (.bool (VU e.free k)):=by
 have hok:=Ex.end_ok e w ZQ;have h:=SK e.endL.n k (Lt.n_lt hok);rw[←Lt.nv_eq hok]at h;rw[Ex.free_end e hch];exact h
def Z5(r:Int)(v:Value):Ending:=if r=0 then .returned v else Yl r
theorem O5(t:Ty)(e:Ex)(k)(w:World)(ZQ:e.In w)(hch:t.fr=true→e.chain=true) :
  Ye Zr w 156 #[t.v,e.val,.int .i64 k] (Z5 (XR t e.free k) (.tuple #[])):=by
 intro y0;have kf:=fun h=>(Fg e w ZQ (hch h)).up y0;have kn:=fun h=>Ff e k w ZQ (hch h);obtain⟨V,hV⟩:=Zv (plus w y0);rw[hV]at kf ⊢;clear hV ZQ hch;obtain⟨op,⟨lw,lh,ll⟩,hd,nm,eh,el,ep,ec,eargs⟩:=e;obtain⟨F,hF⟩:=Zv (Ex.free (.mk op ⟨lw,lh,ll⟩ hd nm eh el ep ec eargs));obtain⟨L,hL⟩:=Zv (SJ (Ex.endL (.mk op ⟨lw,lh,ll⟩ hd nm eh el ep ec eargs)));rw[hF,hL]at kn;rw[hL]at kf;rw[hF];obtain⟨h5,h6,hL2⟩:∃h l,L=.agg #[.int .u64 h,.int .u64 l]:=⟨_,_,hL.symm⟩;subst hL2;simp only[Ex.val,Ex.cells,Ex.op,Ex.lit,Ex.head,Ex.name,Ex.hi,Ex.lo,Ex.p,Ex.args,Ex.cap]at kf ⊢;obtain⟨M,hM⟩:=Zv eargs.length;rw[hM]at kf ⊢;obtain⟨tw,tt,tf⟩:=t;simp only[Ty.v]at kf kn ⊢;have kf':=Zg kf;have kn':=Zg kn;clear kf kn hF hL hM;cases tt with
 | true =>
  rw[show Z5 (XR ⟨tw,true,tf⟩ F k) (.tuple #[])=Yl 9 from rfl];clear kf' kn';go_enter func156,ntmps156;go_wp2_with fail;obtain⟨W,yy,hW,⟨z,hz⟩,ca,cb⟩:=ZF V _ _ 101 65;rw[hW];have Zw:=Zg hz;clear hW ca cb hz;refine (W6 W 9 yy).mono ?_;rintro r w' ⟨rfl,x,rfl⟩;go_wp2;exact⟨rfl,rfl,by rw[Zw.out,Zx,Zx];exact⟨_,rfl⟩⟩
 | false =>
  cases tf with
  | true =>
   obtain⟨B,hB⟩:=Zv (VU F k);have Yz:Z5 (XR ⟨tw,false,true⟩ F k) (.tuple #[])=Z5 (if B then 0 else 5) (.tuple #[]):=by rw[←hB];rfl
   rw[Yz];have kf:=kf'.out rfl;have kn:=kn'.out rfl;rw[hB]at kn;have kf2:=Zg kf;have kn2:=Zg kn;clear kf kn kf' kn' hB Yz;go_enter func156,ntmps156;go_wp2_with fail;obtain⟨W,yy,hW,⟨z,hz⟩,ca,cb⟩:=ZF V _ _ 101 65;rw[hW];have c2:=ca 2 _ rfl;have d0:=cb 0 _ rfl;have d1:=cb 1 _ rfl;have d2:=cb 2 _ rfl;have d3:=cb 3 _ rfl;have d4:=cb 4 _ rfl;have d5:=cb 5 _ rfl;have d6:=cb 6 _ rfl;have d7:=cb 7 _ rfl;have d8:=cb 8 _ rfl;have kf3:=Zg (Zy hz kf2.out);have Zw:=Zg hz;clear hW ca cb hz kf2;refine (XE W 9 yy).mono ?_;rintro r w' ⟨rfl,x,rfl⟩;rw[Zx];go_wp2_with fail;refine (kf3.out _).mono ?_;rintro r w' ⟨rfl,x2,rfl⟩;clear kf3;go_wp2_with fail;refine (kn2.out.at W x2).mono ?_;rintro r w' ⟨rfl,x3,rfl⟩;clear kn2;go_wp2_with fail;cases B with
   | true =>
    refine (XE W 5 x3).mono ?_;rintro r w' ⟨rfl,x4,rfl⟩;go_wp2;refine bodyPost_ret (results_none rfl _ _ _) rfl ?_;exact⟨rfl,by rw[Zw.out,Zx,Zx];exact⟨_,rfl⟩⟩
   | false =>
    refine (W6 W 5 x3).mono ?_;rintro r w' ⟨rfl,x4,rfl⟩;go_wp2;exact⟨rfl,rfl,by rw[Zw.out,Zx,Zx];exact⟨_,rfl⟩⟩
  | false =>
   obtain⟨B,hB⟩:=Zv (tw==k);have Yz:Z5 (XR ⟨tw,false,false⟩ F k) (.tuple #[])=Z5 (if B then 0 else 10) (.tuple #[]):=by
    rw[←hB];by_cases e:tw=k
    ·subst e;simp[XR]
    ·simp[XR,e]
   rw[Yz];clear kf' kn' Yz;go_enter func156,ntmps156;go_wp2_with fail;obtain⟨W,yy,hW,⟨z,hz⟩,ca,cb⟩:=ZF V _ _ 101 65;rw[hW];have c0:=ca 0 _ rfl;have c2:=ca 2 _ rfl;have Zw:=Zg hz;clear hW ca cb hz;refine (XE W 9 yy).mono ?_;rintro r w' ⟨rfl,x,rfl⟩;rw[Zx];go_wp2_with fail;cases B with
   | true =>
    refine (XE W 10 _).mono ?_;rintro r w' ⟨rfl,x4,rfl⟩;go_wp2;go_end0;exact⟨rfl,by rw[Zw.out,Zx,Zx];exact⟨_,rfl⟩⟩
   | false =>
    refine (W6 W 10 _).mono ?_;rintro r w' ⟨rfl,x4,rfl⟩;go_wp2;exact⟨rfl,rfl,by rw[Zw.out,Zx,Zx];exact⟨_,rfl⟩⟩
theorem Xm(V:World)(c d f:Array Value)(t u s:TypeId):∃W y,((V.alloc (.cells c t)).alloc (.cells d u)).alloc (.cells f s)=plus W y∧(∃z,W=plus V z)∧V.heap.size+1+1<W.heap.size∧(∀o v,c[o]?=v→∀y,(plus W y).cell? ⟨V.heap.size,o,none⟩=v)∧(∀o v,d[o]?=v→∀y,(plus W y).cell? ⟨V.heap.size+1,o,none⟩=v)∧(∀o v,f[o]?=v→∀y,(plus W y).cell? ⟨V.heap.size+1+1,o,none⟩=v)∧(∀y o,(plus W y).frozen? ⟨V.heap.size+1+1,o,none⟩=false):=by
 obtain⟨W,hW,hB,hs,ca,cb,cc,fa,fb,fc⟩:=WL V c d f t u s;exact⟨W,⟨#[],W.drawn⟩,by rw[ZK,hW],ZS hB,by omega,ca,cb,cc,fc⟩
theorem Nc{V U:World}(hU:∃z,U=plus V z)(b:Nat)(hb:V.heap.size≤b)(u0 u1 u2 v0 v1 v2:Value)(r0:U.cell? ⟨b,0,none⟩=some u0)(r1:U.cell? ⟨b,1,none⟩=some u1)(r2:U.cell? ⟨b,2,none⟩=some u2) :
  ∃X,(((U.setCell ⟨b,0,none⟩ v0).setCell ⟨b,1,none⟩ v1).setCell ⟨b,2,none⟩ v2)=X∧X.cell? ⟨b,0,none⟩=some v0∧X.cell? ⟨b,1,none⟩=some v1∧X.cell? ⟨b,2,none⟩=some v2∧∃x,X=plus V x:=by
 have n01:(⟨b,0,none⟩:Addr)≠⟨b,1,none⟩:=by simp
 have n02:(⟨b,0,none⟩:Addr)≠⟨b,2,none⟩:=by simp
 have n12:(⟨b,1,none⟩:Addr)≠⟨b,2,none⟩:=by simp
 refine⟨_,rfl,?_,?_,?_,?_⟩
 ·rw[Zu (h:=n02.symm),Zu (h:=n01.symm)]
  exact World.cell?_setCell_same _ _ _ r0
 ·rw[Zu (h:=n12.symm)]
  exact World.cell?_setCell_same _ _ _ ((Zu _ _ _ _ n01).trans r1)
 ·exact World.cell?_setCell_same _ _ _ ((Zu _ _ _ _ n12).trans ((Zu _ _ _ _ n02).trans r2))
 ·obtain⟨z,rfl⟩:=hU
  exact ZS ((((Z9 V z).setCell (by simpa using hb) v0).setCell (by simpa using hb) v1).setCell (by simpa using hb) v2)
structure RB (V:World) (b:Nat) (U:World):Prop where
 up:∃z,U=plus V z
 low:V.heap.size≤b
 r0:U.cell? ⟨b,0,none⟩=some (.int .i64 0)
 r1:U.cell? ⟨b,1,none⟩=some (.bool false)
 r2:U.cell? ⟨b,2,none⟩=some (.bool false)
 rf:∀o,U.frozen? ⟨b,o,none⟩=false
theorem RB.set{V U:World}{b:Nat}(h:RB V b U)(t:Ty):∃X,(((U.setCell ⟨b,0,none⟩ (.int .i64 t.w)).setCell ⟨b,1,none⟩ (.bool t.tr)).setCell ⟨b,2,none⟩ (.bool t.fr))=X∧X.cell? ⟨b,0,none⟩=some (.int .i64 t.w)∧X.cell? ⟨b,1,none⟩=some (.bool t.tr)∧X.cell? ⟨b,2,none⟩=some (.bool t.fr)∧∃x,X=plus V x :=
 Nc h.up b h.low _ _ _ _ _ _ h.r0 h.r1 h.r2
theorem YM{V W:World}{b:Nat}(hz:∃z,W=plus V z)(hb:V.heap.size≤b)(cc:∀o v,(#[.int .i64 0,.bool false,.bool false]:Array Value)[o]?=v→∀y,(plus W y).cell? ⟨b,o,none⟩=v)(fc:∀y o,(plus W y).frozen? ⟨b,o,none⟩=false)(y:ZA):RB V b (plus W y):=by
 obtain⟨z,rfl⟩:=hz;exact⟨⟨_,Zx _ _ _⟩,hb,cc 0 _ rfl y,cc 1 _ rfl y,cc 2 _ rfl y,fc y⟩
theorem Fj(e:Ex)(t:Ty)(w)(hw:Z7 t=0→e.hi<t.w→wrap64 (wrap64 (e.hi-e.lo)+1)=e.hi-e.lo+1) :
  Ye Zr w 111 #[e.val,t.v] (Z5 (Wv e.op e.hi e.lo t).1 (Wv e.op e.hi e.lo t).2.v):=by
 have kw:=Rq t w;intro y0;have kw:=kw.up y0;obtain⟨V,hV⟩:=Zv (plus w y0);rw[hV]at kw ⊢;clear hV;obtain⟨op,⟨lw,lh,ll⟩,hd,nm,eh,el,ep,ec,eargs⟩:=e;simp only[Ex.val,Ex.cells,Ex.op,Ex.lit,Ex.head,Ex.name,Ex.hi,Ex.lo,Ex.p,Ex.args,Ex.cap]at hw ⊢;obtain⟨M,hM⟩:=Zv eargs.length;rw[hM];obtain⟨tw,tt,tf⟩:=t;obtain⟨E,hE⟩:=Zv (Z5 (Wv op eh el ⟨tw,tt,tf⟩).1 (Wv op eh el ⟨tw,tt,tf⟩).2.v);rw[hE];have XS:=Zg hE;clear hE;simp only[Ty.v]at hw kw ⊢;have hw':=Zg hw;have kw':=Zg kw;clear hM hw kw;by_cases o9:op=9
 ·subst o9
  cases tt with
  | true =>
   obtain rfl:Zf (.agg #[.int .i64 tw,.bool true,.bool tf])=E:=XS.out;go_enter func111,ntmps111;go_wp2_with fail;obtain⟨W,yy,hW,⟨z,hz⟩,Yq,ca,cb,cc,fc⟩:=Xm V _ _ _ 65 101 101;rw[hW];have a6:=ca 6 _ rfl;have a7:=ca 7 _ rfl;have b0:=cb 0 _ rfl;have b1:=cb 1 _ rfl;have b2:=cb 2 _ rfl;have hR:=Zg (YM ⟨z,hz⟩ (show V.heap.size≤V.heap.size+1+1 by omega) cc fc);have kw2:=Zg (Yn hz kw'.out);have Zw:=Zg hz;clear hW ca cb cc fc hz Yq kw';refine (XE W 9 yy).mono ?_;rintro r w' ⟨rfl,x1,rfl⟩;rw[Zx];obtain⟨XX,hXX⟩:=Zv ((⟨yy.blocks++x1.blocks,x1.draws⟩:ZA):ZA);rw[hXX];clear hXX;have ZI:=hR.out XX;have r0:=ZI.r0;have r1:=ZI.r1;have r2:=ZI.r2;have rf:=ZI.rf;have YS:=Zg ZI;clear ZI hR;go_wp2;obtain⟨X,hX,g0,g1,g2,hV⟩:=YS.out.set ⟨tw,true,tf⟩;simp only at hX;rw[hX];clear hX;exact bodyPost_ret (v:=.agg #[.int .i64 tw,.bool true,.bool tf]) (by simp[results,Tryz.results111,go_sem,g0,g1,g2]) rfl ⟨rfl,hV⟩
  | false =>
   obtain rfl:Yl 9=E:=XS.out;go_enter func111,ntmps111;go_wp2_with fail;obtain⟨W,yy,hW,⟨z,hz⟩,Yq,ca,cb,cc,fc⟩:=Xm V _ _ _ 65 101 101;rw[hW];have a6:=ca 6 _ rfl;have a7:=ca 7 _ rfl;have b0:=cb 0 _ rfl;have b1:=cb 1 _ rfl;have b2:=cb 2 _ rfl;have hR:=Zg (YM ⟨z,hz⟩ (show V.heap.size≤V.heap.size+1+1 by omega) cc fc);have kw2:=Zg (Yn hz kw'.out);have Zw:=Zg hz;clear hW ca cb cc fc hz Yq kw';refine (W6 W 9 yy).mono ?_;rintro r w' ⟨rfl,x9,rfl⟩;go_wp2;exact⟨rfl,rfl,by rw[Zw.out,Zx,Zx];exact⟨_,rfl⟩⟩
 have m9:(op==9)=false:=by simpa using o9
 by_cases o10:op=10
 ·subst o10
  cases tt with
  | true =>
   obtain rfl:Yl 9=E:=XS.out;rw[show (if Z7 ⟨tw,true,tf⟩=0 then Zf (.int .i64 tw) else Yl (Z7 ⟨tw,true,tf⟩))=Yl 9 from rfl]at kw';go_enter func111,ntmps111;go_wp2_with fail;obtain⟨W,yy,hW,⟨z,hz⟩,Yq,ca,cb,cc,fc⟩:=Xm V _ _ _ 65 101 101;rw[hW];have a6:=ca 6 _ rfl;have a7:=ca 7 _ rfl;have b0:=cb 0 _ rfl;have b1:=cb 1 _ rfl;have b2:=cb 2 _ rfl;have hR:=Zg (YM ⟨z,hz⟩ (show V.heap.size≤V.heap.size+1+1 by omega) cc fc);have kw2:=Zg (Yn hz kw'.out);have Zw:=Zg hz;clear hW ca cb cc fc hz Yq kw';have kwd:=Zg (kw2.out ⟨yy.blocks,yy.draws+1⟩);clear kw2;go_region_dies;all_goals
    refine (kwd.out).mono ?_;rintro r w' ⟨rfl,x1,rfl⟩;exact⟨rfl,rfl,by rw[Zw.out,Zx];exact⟨_,rfl⟩⟩
  | false =>
   cases tf with
   | true =>
    obtain rfl:Yl 10=E:=XS.out;rw[show (if Z7 ⟨tw,false,true⟩=0 then Zf (.int .i64 tw) else Yl (Z7 ⟨tw,false,true⟩))=Yl 10 from rfl]at kw';go_enter func111,ntmps111;go_wp2_with fail;obtain⟨W,yy,hW,⟨z,hz⟩,Yq,ca,cb,cc,fc⟩:=Xm V _ _ _ 65 101 101;rw[hW];have a6:=ca 6 _ rfl;have a7:=ca 7 _ rfl;have b0:=cb 0 _ rfl;have b1:=cb 1 _ rfl;have b2:=cb 2 _ rfl;have hR:=Zg (YM ⟨z,hz⟩ (show V.heap.size≤V.heap.size+1+1 by omega) cc fc);have kw2:=Zg (Yn hz kw'.out);have Zw:=Zg hz;clear hW ca cb cc fc hz Yq kw';have kwd:=Zg (kw2.out ⟨yy.blocks,yy.draws+1⟩);clear kw2;go_region_dies;all_goals
     refine (kwd.out).mono ?_;rintro r w' ⟨rfl,x1,rfl⟩;exact⟨rfl,rfl,by rw[Zw.out,Zx];exact⟨_,rfl⟩⟩
   | false =>
    rw[show (if Z7 ⟨tw,false,false⟩=0 then Zf (.int .i64 tw) else Yl (Z7 ⟨tw,false,false⟩))=.returned (.int .i64 tw) from rfl]at kw';by_cases q:eh<tw
    ·have hs:Z5 (Wv 10 eh el ⟨tw,false,false⟩).1 (Wv 10 eh el ⟨tw,false,false⟩).2.v=.returned (.agg #[.int .i64 (eh-el+1),.bool false,.bool false]):=by
      have q2:¬tw≤eh:=by omega
      simp[Wv,Z7,q2,Z5,YQ,Ty.v]
     obtain rfl:=hs.symm.trans XS.out;clear hs;go_enter func111,ntmps111;go_wp2_with fail;obtain⟨W,yy,hW,⟨z,hz⟩,Yq,ca,cb,cc,fc⟩:=Xm V _ _ _ 65 101 101;rw[hW];have a6:=ca 6 _ rfl;have a7:=ca 7 _ rfl;have b0:=cb 0 _ rfl;have b1:=cb 1 _ rfl;have b2:=cb 2 _ rfl;have hR:=Zg (YM ⟨z,hz⟩ (show V.heap.size≤V.heap.size+1+1 by omega) cc fc);have kw2:=Zg (Yn hz kw'.out);have Zw:=Zg hz;clear hW ca cb cc fc hz Yq kw';refine WU 5 (by kernel_rfl) (by kernel_rfl) ?_;simp only[List.take_succ_cons,List.take_zero,List.drop_succ_cons,List.drop_zero];repeat (go_big_quiet_step (first|(with_reducible exact kw2.out _)))
     refine wpQuiet_nil ?_;rintro _ ⟨y1,rfl⟩;go_wp2_with fail;refine (XE W 5 y1).mono ?_;rintro r w' ⟨rfl,x1,rfl⟩;rw[Zx];have hwr:=Zg (hw'.out rfl q);clear kw2;obtain⟨XX,hXX⟩:=Zv ((⟨y1.blocks++x1.blocks,x1.draws⟩:ZA):ZA);rw[hXX];clear hXX;go_wp2_with fail;rw[hwr.out];refine (Uv (eh-el+1) W XX).mono ?_;rintro r w' ⟨rfl,x2,rfl⟩;rw[Zx];obtain⟨XY,hXY⟩:=Zv ((⟨XX.blocks++x2.blocks,x2.draws⟩:ZA):ZA);rw[hXY];clear hXY hwr;have ZI:=hR.out XY;have r0:=ZI.r0;have r1:=ZI.r1;have r2:=ZI.r2;have rf:=ZI.rf;have YS:=Zg ZI;clear ZI hR;simp only[Ty.v,YQ];go_wp2;obtain⟨X,hX,g0,g1,g2,hV⟩:=YS.out.set (YQ (eh-el+1));simp only[YQ]at hX g0 g1 g2;rw[hX];clear hX;exact bodyPost_ret (v:=.agg #[.int .i64 (eh-el+1),.bool false,.bool false]) (by simp[results,Tryz.results111,go_sem,g0,g1,g2]) rfl ⟨rfl,hV⟩
    ·obtain rfl:Yl 5=E:=by
      have hs:Z5 (Wv 10 eh el ⟨tw,false,false⟩).1 (Wv 10 eh el ⟨tw,false,false⟩).2.v=Yl 5:=by
       have q2:tw≤eh:=by omega
       simp[Wv,Z7,q2,Z5]
      exact hs.symm.trans XS.out
     go_enter func111,ntmps111;go_wp2_with fail;obtain⟨W,yy,hW,⟨z,hz⟩,Yq,ca,cb,cc,fc⟩:=Xm V _ _ _ 65 101 101;rw[hW];have a6:=ca 6 _ rfl;have b0:=cb 0 _ rfl;have b1:=cb 1 _ rfl;have b2:=cb 2 _ rfl;have kw2:=Zg (Yn hz kw'.out);have Zw:=Zg hz;clear hW ca cb cc fc hz Yq kw';refine WU 5 (by kernel_rfl) (by kernel_rfl) ?_;simp only[List.take_succ_cons,List.take_zero,List.drop_succ_cons,List.drop_zero];repeat (go_big_quiet_step (first|(with_reducible exact kw2.out _)))
     refine wpQuiet_nil ?_;rintro _ ⟨y1,rfl⟩;clear kw2;go_wp2_with fail;rw[show decide (eh<tw)=false by simpa using q];refine (W6 W 5 y1).mono ?_;rintro r w' ⟨rfl,x1,rfl⟩;go_wp2;exact⟨rfl,rfl,by rw[Zw.out,Zx,Zx];exact⟨_,rfl⟩⟩
 have m10:(op==10)=false:=by simpa using o10
 have ho:(Wv op eh el ⟨tw,tt,tf⟩)=if tt then (9,YV) else (0,⟨tw,tt,tf⟩):=by
  simp[Wv,o9,o10]
 rw[ho]at XS;cases tt with
 | true =>
  obtain rfl:Yl 9=E:=XS.out;go_enter func111,ntmps111;go_wp2_with fail;obtain⟨W,yy,hW,⟨z,hz⟩,Yq,ca,cb,cc,fc⟩:=Xm V _ _ _ 65 101 101;rw[hW];have b0:=cb 0 _ rfl;have b1:=cb 1 _ rfl;have b2:=cb 2 _ rfl;have Zw:=Zg hz;clear hW ca cb cc fc hz Yq kw';refine (W6 W 9 yy).mono ?_;rintro r w' ⟨rfl,x9,rfl⟩;go_wp2;exact⟨rfl,rfl,by rw[Zw.out,Zx,Zx];exact⟨_,rfl⟩⟩
 | false =>
  obtain rfl:Zf (.agg #[.int .i64 tw,.bool false,.bool tf])=E:=XS.out;go_enter func111,ntmps111;go_wp2_with fail;obtain⟨W,yy,hW,⟨z,hz⟩,Yq,ca,cb,cc,fc⟩:=Xm V _ _ _ 65 101 101;rw[hW];have b0:=cb 0 _ rfl;have b1:=cb 1 _ rfl;have b2:=cb 2 _ rfl;have hR:=Zg (YM ⟨z,hz⟩ (show V.heap.size≤V.heap.size+1+1 by omega) cc fc);have Zw:=Zg hz;clear hW ca cb cc fc hz Yq kw';refine (XE W 9 yy).mono ?_;rintro r w' ⟨rfl,x1,rfl⟩;rw[Zx];obtain⟨XX,hXX⟩:=Zv ((⟨yy.blocks++x1.blocks,x1.draws⟩:ZA):ZA);rw[hXX];clear hXX;have ZI:=hR.out XX;have r0:=ZI.r0;have r1:=ZI.r1;have r2:=ZI.r2;have rf:=ZI.rf;have YS:=Zg ZI;clear ZI hR;go_wp2;obtain⟨X,hX,g0,g1,g2,hV⟩:=YS.out.set ⟨tw,false,tf⟩;simp only at hX;rw[hX];clear hX;exact bodyPost_ret (v:=.agg #[.int .i64 tw,.bool false,.bool tf]) (by simp[results,Tryz.results111,go_sem,g0,g1,g2]) rfl ⟨rfl,hV⟩
theorem XO{V W:World}{z:ZA}{f:FuncId}{args:Array Value}{E:Ending}(hz:W=plus V z)(h:Ye Zr V f args E):Ye Zr W f args E:=by
 subst hz;exact h.up z
theorem Fc(e x y:Ex)(s t:Ty)(w:World)(ZQ:e.In w)(hx:e.args[0]?=some x)(hy:e.args[1]?=some y)(cx:s.fr=true→x.chain=true)(cy:t.fr=true→y.chain=true) :
  Ye Zr w 141 #[e.val,s.v,t.v] (Z5 (Xv x.free y.free s t).1 (.int .i64 (Xv x.free y.free s t).2)):=by
 intro y0;obtain⟨_,_,_,_,_,_,_,_,_,Z1,Wl⟩:=ZQ;have g1:=fun k=>(O5 s x k w (Wl x (Zl hx)) cx).up y0;have g2:=fun k=>(O5 t y k w (Wl y (Zl hy)) cy).up y0;have Z1:=Z1.plus y0;clear Wl cx cy;obtain⟨V,hV⟩:=Zv (plus w y0);rw[hV]at Z1 g1 g2 ⊢;clear hV;obtain⟨pa,VO,hcx⟩:=Z1 0 x hx;obtain⟨pb,hpb,WF⟩:=Z1 1 y hy;have hpp:pb=pa:=Option.some.inj (hpb.symm.trans VO);subst hpp;have YA:1<e.args.length:=(Zj.1 hy).1;simp only[Nat.zero_mul,Addr.add_zero']at hcx;simp only[Nat.one_mul]at WF;rw[show pb.add 9=⟨pb.block,pb.off+9,none⟩ by simp[Addr.add]]at WF;obtain⟨n,hn⟩:=Zv x.free;obtain⟨m,hm⟩:=Zv y.free;rw[hn]at g1 ⊢;rw[hm]at g2 ⊢;obtain⟨op,⟨lw,lh,ll⟩,hd,nm,eh,el,ep,ec,eargs⟩:=e;simp only[Ex.val,Ex.cells,Ex.op,Ex.lit,Ex.head,Ex.name,Ex.hi,Ex.lo,Ex.p,Ex.args,Ex.cap]at VO YA ⊢;subst VO;obtain⟨M,hM⟩:=Zv eargs.length;rw[hM]at YA ⊢;obtain⟨xop,⟨xlw,xlh,xll⟩,xhd,xnm,xeh,xel,xep,xec,xargs⟩:=x;obtain⟨yop,⟨ylw,ylh,yll⟩,yhd,ynm,yeh,yel,yep,yec,yargs⟩:=y;simp only[Ex.val,Ex.cells,Ex.op,Ex.lit,Ex.head,Ex.name,Ex.hi,Ex.lo,Ex.p,Ex.args,Ex.cap]at g1 g2 hcx WF;clear Z1 hpb hx hy hM hn hm;obtain⟨sw,st,sf⟩:=s;obtain⟨tw,tt,tf⟩:=t;obtain⟨E,hE⟩:=Zv (Z5 (Xv n m ⟨sw,st,sf⟩ ⟨tw,tt,tf⟩).1 (.int .i64 (Xv n m ⟨sw,st,sf⟩ ⟨tw,tt,tf⟩).2));rw[hE];have XS:=Zg hE;have g1':=Zg g1;have g2':=Zg g2;have T2:=Zg hcx;have T3:=Zg WF;clear hE g1 g2 hcx WF;simp only[Ty.v]at g1' g2' ⊢;cases st with
 | true =>
  obtain rfl:Yl 9=E:=by rw[←XS.out];simp[Xv,Z5]
  clear g1' g2' T2 T3 XS;go_enter func141,ntmps141;go_wp2_with fail;obtain⟨X,hX,hB,-,ca,cb,cc,-,-,-⟩:=WL V _ _ _ 65 101 101;rw[←hX];obtain⟨zX,hzX⟩:=ZS hB;have c6:=ca 6 _ rfl;have c8:=ca 8 _ rfl;have s0:=cb 0 _ rfl;have s1:=cb 1 _ rfl;have s2:=cb 2 _ rfl;have t0:=cc 0 _ rfl;have t1:=cc 1 _ rfl;have t2:=cc 2 _ rfl;have ZO:=Zg hzX;clear hX hB ca cb cc hzX;rw[←ZK X];obtain⟨Y0,hY0⟩:=Zv ((⟨#[],X.drawn⟩:ZA):ZA);rw[hY0];clear hY0;refine (W6 X 9 Y0).mono ?_;rintro r w' ⟨rfl,x9,rfl⟩;go_wp2;exact⟨rfl,rfl,by rw[ZO.out,Zx,Zx];exact⟨_,rfl⟩⟩
 | false =>
  cases tt with
  | true =>
   obtain rfl:Yl 9=E:=by rw[←XS.out];simp[Xv,Z5]
   clear g1' g2' T2 T3 XS;go_enter func141,ntmps141;go_wp2_with fail;obtain⟨X,hX,hB,-,ca,cb,cc,-,-,-⟩:=WL V _ _ _ 65 101 101;rw[←hX];obtain⟨zX,hzX⟩:=ZS hB;have c6:=ca 6 _ rfl;have c8:=ca 8 _ rfl;have s0:=cb 0 _ rfl;have s1:=cb 1 _ rfl;have s2:=cb 2 _ rfl;have t0:=cc 0 _ rfl;have t1:=cc 1 _ rfl;have t2:=cc 2 _ rfl;have ZO:=Zg hzX;clear hX hB ca cb cc hzX;rw[←ZK X];obtain⟨Y0,hY0⟩:=Zv ((⟨#[],X.drawn⟩:ZA):ZA);rw[hY0];clear hY0;refine (W6 X 9 Y0).mono ?_;rintro r w' ⟨rfl,x9,rfl⟩;go_wp2;exact⟨rfl,rfl,by rw[ZO.out,Zx,Zx];exact⟨_,rfl⟩⟩
  | false =>
   cases sf with
   | true =>
    cases tf with
    | true =>
     obtain rfl:Yl 10=E:=by rw[←XS.out];simp[Xv,Z5]
     clear g1' g2' T2 T3 XS;go_enter func141,ntmps141;go_wp2_with fail;obtain⟨X,hX,hB,-,ca,cb,cc,-,-,-⟩:=WL V _ _ _ 65 101 101;rw[←hX];obtain⟨zX,hzX⟩:=ZS hB;have c6:=ca 6 _ rfl;have c8:=ca 8 _ rfl;have s0:=cb 0 _ rfl;have s1:=cb 1 _ rfl;have s2:=cb 2 _ rfl;have t0:=cc 0 _ rfl;have t1:=cc 1 _ rfl;have t2:=cc 2 _ rfl;have ZO:=Zg hzX;clear hX hB ca cb cc hzX;rw[←ZK X];obtain⟨Y0,hY0⟩:=Zv ((⟨#[],X.drawn⟩:ZA):ZA);rw[hY0];clear hY0;refine (XE X 9 Y0).mono ?_;rintro r w' ⟨rfl,a1,rfl⟩;rw[Zx];obtain⟨Ya1,hYa1⟩:=Zv ((⟨ZA.blocks Y0++a1.blocks,a1.draws⟩:ZA):ZA);rw[hYa1];clear hYa1;go_wp2_with fail;refine (W6 X 10 Ya1).mono ?_;rintro r w' ⟨rfl,x9,rfl⟩;go_wp2;exact⟨rfl,rfl,by rw[ZO.out,Zx,Zx];exact⟨_,rfl⟩⟩
    | false =>
     go_enter func141,ntmps141;go_wp2_with fail;obtain⟨X,hX,hB,-,ca,cb,cc,-,-,-⟩:=WL V _ _ _ 65 101 101;rw[←hX];obtain⟨zX,hzX⟩:=ZS hB;have c6:=ca 6 _ rfl;have c8:=ca 8 _ rfl;have s0:=cb 0 _ rfl;have s1:=cb 1 _ rfl;have s2:=cb 2 _ rfl;have t0:=cc 0 _ rfl;have t1:=cc 1 _ rfl;have t2:=cc 2 _ rfl;have ZO:=Zg hzX;clear hX hB ca cb cc hzX;rw[←ZK X];obtain⟨Y0,hY0⟩:=Zv ((⟨#[],X.drawn⟩:ZA):ZA);rw[hY0];clear hY0;refine (XE X 9 Y0).mono ?_;rintro r w' ⟨rfl,a1,rfl⟩;rw[Zx];obtain⟨Ya1,hYa1⟩:=Zv ((⟨ZA.blocks Y0++a1.blocks,a1.draws⟩:ZA):ZA);rw[hYa1];clear hYa1;go_wp2_with fail;refine (XE X 10 Ya1).mono ?_;rintro r w' ⟨rfl,a2,rfl⟩;rw[Zx];obtain⟨Ya2,hYa2⟩:=Zv ((⟨ZA.blocks Ya1++a2.blocks,a2.draws⟩:ZA):ZA);rw[hYa2];clear hYa2;go_wp2_with fail;obtain⟨R1,Yj⟩:=Zv (XR ⟨sw,false,true⟩ n tw);obtain⟨R2,Z0⟩:=Zv (XR ⟨tw,false,false⟩ m tw);have q1:=Yn ZO.out (g1'.out tw);have q2:=Yn ZO.out (g2'.out tw);rw[Yj]at q1;rw[Z0]at q2;have q1':=Zg q1;have q2':=Zg q2;have ux:=Xn ZO.out T2.out;have x0:=fun y=>(ux.plus y).c0 _ rfl;have x1:=fun y=>(ux.plus y).cs 0 _ rfl;have x2:=fun y=>(ux.plus y).cs 1 _ rfl;have x3:=fun y=>(ux.plus y).cs 2 _ rfl;have x4:=fun y=>(ux.plus y).cs 3 _ rfl;have x5:=fun y=>(ux.plus y).cs 4 _ rfl;have x6:=fun y=>(ux.plus y).cs 5 _ rfl;have x7:=fun y=>(ux.plus y).cs 6 _ rfl;have x8:=fun y=>(ux.plus y).cs 7 _ rfl;have uy:=Xn ZO.out T3.out;have y0:=fun y=>(uy.plus y).c0 _ rfl;have y1:=fun y=>(uy.plus y).cs 0 _ rfl;have y2:=fun y=>(uy.plus y).cs 1 _ rfl;have y3:=fun y=>(uy.plus y).cs 2 _ rfl;have y4:=fun y=>(uy.plus y).cs 3 _ rfl;have y5:=fun y=>(uy.plus y).cs 4 _ rfl;have y6:=fun y=>(uy.plus y).cs 5 _ rfl;have y7:=fun y=>(uy.plus y).cs 6 _ rfl;have y8:=fun y=>(uy.plus y).cs 7 _ rfl;clear q1 q2 ux uy;refine WU 6 (by kernel_rfl) (by kernel_rfl) ?_;simp only[List.take_succ_cons,List.take_zero,List.drop_succ_cons,List.drop_zero];repeat (go_big_quiet_step (fail))
     refine wpQuiet_nil ?_;rintro _ ⟨v1,rfl⟩;go_wp2_with fail;refine (q1'.out v1).mono ?_;rintro r w' ⟨rfl,v2,rfl⟩;by_cases z1:R1=0
     ·subst z1
      simp only[Z5,if_pos];go_wp2_with fail;refine WU 6 (by kernel_rfl) (by kernel_rfl) ?_;simp only[List.take_succ_cons,List.take_zero,List.drop_succ_cons,List.drop_zero];repeat (go_big_quiet_step (fail))
      refine wpQuiet_nil ?_;rintro _ ⟨v3,rfl⟩;go_wp2_with fail;refine (q2'.out v3).mono ?_;rintro r w' ⟨rfl,v4,rfl⟩;by_cases z2:R2=0
      ·subst z2
       obtain rfl:Zf (.int .i64 tw)=E:=by have:=Yj;rw[←XS.out];cases hf:VU n tw <;> simp[XR,hf,Xv,Z5]at this ⊢
       simp only[Z5,if_pos];go_wp2;go_ret;exact⟨rfl,by rw[ZO.out,Zx];exact⟨_,rfl⟩⟩
      ·obtain rfl:Yl R2=E:=absurd (Z0.symm.trans (by simp[XR])) z2
       rw[Z5,if_neg z2];go_wp2;exact⟨rfl,rfl,by rw[ZO.out,Zx];exact⟨_,rfl⟩⟩
     ·obtain rfl:Yl R1=E:=by have:=Yj;rw[←XS.out];cases hf:VU n tw <;> simp[XR,hf,Xv,Z5]at this ⊢ <;> first|(rw[←this])|(exact absurd this.symm z1)
      rw[Z5,if_neg z1];go_wp2;exact⟨rfl,rfl,by rw[ZO.out,Zx];exact⟨_,rfl⟩⟩
   | false =>
    cases tf with
    | true =>
     go_enter func141,ntmps141;go_wp2_with fail;obtain⟨X,hX,hB,-,ca,cb,cc,-,-,-⟩:=WL V _ _ _ 65 101 101;rw[←hX];obtain⟨zX,hzX⟩:=ZS hB;have c6:=ca 6 _ rfl;have c8:=ca 8 _ rfl;have s0:=cb 0 _ rfl;have s1:=cb 1 _ rfl;have s2:=cb 2 _ rfl;have t0:=cc 0 _ rfl;have t1:=cc 1 _ rfl;have t2:=cc 2 _ rfl;have ZO:=Zg hzX;clear hX hB ca cb cc hzX;rw[←ZK X];obtain⟨Y0,hY0⟩:=Zv ((⟨#[],X.drawn⟩:ZA):ZA);rw[hY0];clear hY0;refine (XE X 9 Y0).mono ?_;rintro r w' ⟨rfl,a1,rfl⟩;rw[Zx];obtain⟨Ya1,hYa1⟩:=Zv ((⟨ZA.blocks Y0++a1.blocks,a1.draws⟩:ZA):ZA);rw[hYa1];clear hYa1;go_wp2_with fail;refine (XE X 10 Ya1).mono ?_;rintro r w' ⟨rfl,a2,rfl⟩;rw[Zx];obtain⟨Ya2,hYa2⟩:=Zv ((⟨ZA.blocks Ya1++a2.blocks,a2.draws⟩:ZA):ZA);rw[hYa2];clear hYa2;go_wp2_with fail;obtain⟨R1,Yj⟩:=Zv (XR ⟨sw,false,false⟩ n sw);obtain⟨R2,Z0⟩:=Zv (XR ⟨tw,false,true⟩ m sw);have q1:=Yn ZO.out (g1'.out sw);have q2:=Yn ZO.out (g2'.out sw);rw[Yj]at q1;rw[Z0]at q2;have q1':=Zg q1;have q2':=Zg q2;have ux:=Xn ZO.out T2.out;have x0:=fun y=>(ux.plus y).c0 _ rfl;have x1:=fun y=>(ux.plus y).cs 0 _ rfl;have x2:=fun y=>(ux.plus y).cs 1 _ rfl;have x3:=fun y=>(ux.plus y).cs 2 _ rfl;have x4:=fun y=>(ux.plus y).cs 3 _ rfl;have x5:=fun y=>(ux.plus y).cs 4 _ rfl;have x6:=fun y=>(ux.plus y).cs 5 _ rfl;have x7:=fun y=>(ux.plus y).cs 6 _ rfl;have x8:=fun y=>(ux.plus y).cs 7 _ rfl;have uy:=Xn ZO.out T3.out;have y0:=fun y=>(uy.plus y).c0 _ rfl;have y1:=fun y=>(uy.plus y).cs 0 _ rfl;have y2:=fun y=>(uy.plus y).cs 1 _ rfl;have y3:=fun y=>(uy.plus y).cs 2 _ rfl;have y4:=fun y=>(uy.plus y).cs 3 _ rfl;have y5:=fun y=>(uy.plus y).cs 4 _ rfl;have y6:=fun y=>(uy.plus y).cs 5 _ rfl;have y7:=fun y=>(uy.plus y).cs 6 _ rfl;have y8:=fun y=>(uy.plus y).cs 7 _ rfl;clear q1 q2 ux uy;refine WU 6 (by kernel_rfl) (by kernel_rfl) ?_;simp only[List.take_succ_cons,List.take_zero,List.drop_succ_cons,List.drop_zero];repeat (go_big_quiet_step (fail))
     refine wpQuiet_nil ?_;rintro _ ⟨v1,rfl⟩;go_wp2_with fail;refine (q1'.out v1).mono ?_;rintro r w' ⟨rfl,v2,rfl⟩;by_cases z1:R1=0
     ·subst z1
      simp only[Z5,if_pos];go_wp2_with fail;refine WU 6 (by kernel_rfl) (by kernel_rfl) ?_;simp only[List.take_succ_cons,List.take_zero,List.drop_succ_cons,List.drop_zero];repeat (go_big_quiet_step (fail))
      refine wpQuiet_nil ?_;rintro _ ⟨v3,rfl⟩;go_wp2_with fail;refine (q2'.out v3).mono ?_;rintro r w' ⟨rfl,v4,rfl⟩;by_cases z2:R2=0
      ·subst z2
       obtain rfl:Zf (.int .i64 sw)=E:=by have:=Z0;rw[←XS.out];cases hf:VU m sw <;> simp[XR,hf,Xv,Z5]at this ⊢
       simp only[Z5,if_pos];go_wp2;go_ret;exact⟨rfl,by rw[ZO.out,Zx];exact⟨_,rfl⟩⟩
      ·obtain rfl:Yl R2=E:=by have:=Z0;rw[←XS.out];cases hf:VU m sw <;> simp[XR,hf,Xv,Z5]at this ⊢ <;> first|(rw[←this])|(exact absurd this.symm z2)
       rw[Z5,if_neg z2];go_wp2;exact⟨rfl,rfl,by rw[ZO.out,Zx];exact⟨_,rfl⟩⟩
     ·obtain rfl:Yl R1=E:=absurd (Yj.symm.trans (by simp[XR])) z1
      rw[Z5,if_neg z1];go_wp2;exact⟨rfl,rfl,by rw[ZO.out,Zx];exact⟨_,rfl⟩⟩
    | false =>
     go_enter func141,ntmps141;go_wp2_with fail;obtain⟨X,hX,hB,-,ca,cb,cc,-,-,-⟩:=WL V _ _ _ 65 101 101;rw[←hX];obtain⟨zX,hzX⟩:=ZS hB;have c6:=ca 6 _ rfl;have c8:=ca 8 _ rfl;have s0:=cb 0 _ rfl;have s1:=cb 1 _ rfl;have s2:=cb 2 _ rfl;have t0:=cc 0 _ rfl;have t1:=cc 1 _ rfl;have t2:=cc 2 _ rfl;have ZO:=Zg hzX;clear hX hB ca cb cc hzX;rw[←ZK X];obtain⟨Y0,hY0⟩:=Zv ((⟨#[],X.drawn⟩:ZA):ZA);rw[hY0];clear hY0;refine (XE X 9 Y0).mono ?_;rintro r w' ⟨rfl,a1,rfl⟩;rw[Zx];obtain⟨Ya1,hYa1⟩:=Zv ((⟨ZA.blocks Y0++a1.blocks,a1.draws⟩:ZA):ZA);rw[hYa1];clear hYa1;go_wp2_with fail;refine (XE X 10 Ya1).mono ?_;rintro r w' ⟨rfl,a2,rfl⟩;rw[Zx];obtain⟨Ya2,hYa2⟩:=Zv ((⟨ZA.blocks Ya1++a2.blocks,a2.draws⟩:ZA):ZA);rw[hYa2];clear hYa2;go_wp2_with fail;obtain⟨R1,Yj⟩:=Zv (XR ⟨sw,false,false⟩ n sw);obtain⟨R2,Z0⟩:=Zv (XR ⟨tw,false,false⟩ m sw);have q1:=Yn ZO.out (g1'.out sw);have q2:=Yn ZO.out (g2'.out sw);rw[Yj]at q1;rw[Z0]at q2;have q1':=Zg q1;have q2':=Zg q2;have ux:=Xn ZO.out T2.out;have x0:=fun y=>(ux.plus y).c0 _ rfl;have x1:=fun y=>(ux.plus y).cs 0 _ rfl;have x2:=fun y=>(ux.plus y).cs 1 _ rfl;have x3:=fun y=>(ux.plus y).cs 2 _ rfl;have x4:=fun y=>(ux.plus y).cs 3 _ rfl;have x5:=fun y=>(ux.plus y).cs 4 _ rfl;have x6:=fun y=>(ux.plus y).cs 5 _ rfl;have x7:=fun y=>(ux.plus y).cs 6 _ rfl;have x8:=fun y=>(ux.plus y).cs 7 _ rfl;have uy:=Xn ZO.out T3.out;have y0:=fun y=>(uy.plus y).c0 _ rfl;have y1:=fun y=>(uy.plus y).cs 0 _ rfl;have y2:=fun y=>(uy.plus y).cs 1 _ rfl;have y3:=fun y=>(uy.plus y).cs 2 _ rfl;have y4:=fun y=>(uy.plus y).cs 3 _ rfl;have y5:=fun y=>(uy.plus y).cs 4 _ rfl;have y6:=fun y=>(uy.plus y).cs 5 _ rfl;have y7:=fun y=>(uy.plus y).cs 6 _ rfl;have y8:=fun y=>(uy.plus y).cs 7 _ rfl;clear q1 q2 ux uy;refine WU 6 (by kernel_rfl) (by kernel_rfl) ?_;simp only[List.take_succ_cons,List.take_zero,List.drop_succ_cons,List.drop_zero];repeat (go_big_quiet_step (fail))
     refine wpQuiet_nil ?_;rintro _ ⟨v1,rfl⟩;go_wp2_with fail;refine (q1'.out v1).mono ?_;rintro r w' ⟨rfl,v2,rfl⟩;by_cases z1:R1=0
     ·subst z1
      simp only[Z5,if_pos];go_wp2_with fail;refine WU 6 (by kernel_rfl) (by kernel_rfl) ?_;simp only[List.take_succ_cons,List.take_zero,List.drop_succ_cons,List.drop_zero];repeat (go_big_quiet_step (fail))
      refine wpQuiet_nil ?_;rintro _ ⟨v3,rfl⟩;go_wp2_with fail;refine (q2'.out v3).mono ?_;rintro r w' ⟨rfl,v4,rfl⟩;by_cases z2:R2=0
      ·subst z2
       obtain rfl:Zf (.int .i64 sw)=E:=by have:=Z0;rw[←XS.out];by_cases hf:tw=sw <;> simp[XR,hf,Xv,Z5]at this ⊢
       simp only[Z5,if_pos];go_wp2;go_ret;exact⟨rfl,by rw[ZO.out,Zx];exact⟨_,rfl⟩⟩
      ·obtain rfl:Yl R2=E:=(Classical.byCases (fun hf:tw=sw=>absurd (Z0.symm.trans (by simp[XR,hf])) z2) (fun hf:¬tw=sw=>by rw[←XS.out,←Z0];simp[XR,hf,Xv,Z5,show ¬sw=tw from fun c=>hf c.symm]))
       rw[Z5,if_neg z2];go_wp2;exact⟨rfl,rfl,by rw[ZO.out,Zx];exact⟨_,rfl⟩⟩
     ·obtain rfl:Yl R1=E:=absurd (Yj.symm.trans (by simp[XR])) z1
      rw[Z5,if_neg z1];go_wp2;exact⟨rfl,rfl,by rw[ZO.out,Zx];exact⟨_,rfl⟩⟩
end Go.Proofs.YtheaknidbcbneaaGreat

/-
  WHAT IS PROVED HERE: a part of the proof (made narrower and merged by program; the parts: Vm Vn Vo).
-/
import Derived.Deep.RegionLaw
import Derived.BigRegion
import Derived.RegionDies
import Derived.Test.YtobhijbncchpiaaGreatM16
namespace Go.Proofs.YtobhijbncchpiaaGreat
open Go.RowKit
/-- What is wrong with a type, n the number of a free one, that must go to a width. -/
def goesE (t:Ty) (n:Nat) (k:Int):Int:=if t.tr then 9 else if t.fr then (if fitsN n k then 0 else 5) else if t.w=k then 0 else 10
theorem t_fits (e:Ex) (k:Int) (w:World) (hin:e.In w) (hch:e.chain=true):Pure Tryz.prog 194 #[numV e.endL,.int .i64 k] (.bool (fitsN e.free k)):=by
 have hok:=Ex.end_ok e w hin
 have h:=num_fits e.endL.n k (Lt.n_lt hok)
 rw [← Lt.nv_eq hok] at h
 rw [Ex.free_end e hch]
 exact h
def endE (r:Int) (v:Value):Ending:=if r=0 then .returned v else gaveE r
set_option maxRecDepth 100000 in
set_option maxHeartbeats 8000000 in
theorem t_goesAs (t:Ty) (e:Ex) (k:Int) (w:World) (hin:e.In w) (hch:t.fr=true→e.chain=true) :
  KpE Tryz.prog w 165 #[t.v,e.val,.int .i64 k] (endE (goesE t e.free k) (.tuple #[])):=by
 intro y0
 have kf:=fun h=>(t_free e w hin (hch h)).up y0
 have kn:=fun h=>t_fits e k w hin (hch h)
 obtain⟨V,hV⟩:∃ V,plus w y0=V:=⟨_,rfl⟩
 rw [hV] at kf ⊢
 clear hV hin hch
 obtain⟨op,⟨lw,lh,ll⟩,hd,nm,eh,el,ep,ec,eargs⟩:=e
 obtain⟨F,hF⟩:∃ F,Ex.free (.mk op ⟨lw,lh,ll⟩ hd nm eh el ep ec eargs)=F:=⟨_,rfl⟩
 obtain⟨L,hL⟩:∃ L,numV (Ex.endL (.mk op ⟨lw,lh,ll⟩ hd nm eh el ep ec eargs))=L:=⟨_,rfl⟩
 rw [hF,hL] at kn
 rw [hL] at kf
 rw [hF]
 obtain⟨h5,h6,hL2⟩:∃ h l,L=.agg #[.int .u64 h,.int .u64 l]:=⟨_,_,hL.symm⟩
 subst hL2
 simp only [Ex.val,Ex.cells,Ex.op,Ex.lit,Ex.head,Ex.name,Ex.hi,Ex.lo,Ex.p,Ex.args,Ex.cap] at kf ⊢
 obtain⟨M,hM⟩:∃ M,eargs.length=M:=⟨_,rfl⟩
 rw [hM] at kf ⊢
 obtain⟨tw,tt,tf⟩:=t
 simp only [Ty.v] at kf kn ⊢
 have kf':=Lib.hid kf
 have kn':=Lib.hid kn
 clear kf kn hF hL hM
 cases tt with
 | true =>
  rw [show endE (goesE ⟨tw,true,tf⟩ F k) (.tuple #[])=gaveE 9 from rfl]
  clear kf' kn'
  go_enter Tryz.func165,Tryz.ntmps165
  go_wp2_with fail
  obtain⟨W,yy,hW,⟨z,hz⟩,ca,cb⟩:=box2n V _ _ 75 45
  rw [hW]
  have hz':=Lib.hid hz
  clear hW ca cb hz
  refine (need_no W 9 yy).mono ?_
  rintro r w' ⟨rfl,x,rfl⟩
  go_wp2
  exact⟨rfl,rfl,by rw [hz'.out,plus_plus,plus_plus];exact⟨_,rfl⟩⟩
 | false =>
  cases tf with
  | true =>
   obtain⟨B,hB⟩:∃ B,fitsN F k=B:=⟨_,rfl⟩
   have hB2:endE (goesE ⟨tw,false,true⟩ F k) (.tuple #[])=endE (if B then 0 else 5) (.tuple #[]):=by rw [← hB];rfl
   rw [hB2]
   have kf:=kf'.out rfl
   have kn:=kn'.out rfl
   rw [hB] at kn
   have kf2:=Lib.hid kf
   have kn2:=Lib.hid kn
   clear kf kn kf' kn' hB hB2
   go_enter Tryz.func165,Tryz.ntmps165
   go_wp2_with fail
   obtain⟨W,yy,hW,⟨z,hz⟩,ca,cb⟩:=box2n V _ _ 75 45
   rw [hW]
   have c2:=ca 2 _ rfl
   have d0:=cb 0 _ rfl
   have d1:=cb 1 _ rfl
   have d2:=cb 2 _ rfl
   have d3:=cb 3 _ rfl
   have d4:=cb 4 _ rfl
   have d5:=cb 5 _ rfl
   have d6:=cb 6 _ rfl
   have d7:=cb 7 _ rfl
   have d8:=cb 8 _ rfl
   have kf3:=Lib.hid (kp_at hz kf2.out)
   have hz':=Lib.hid hz
   clear hW ca cb hz kf2
   refine (need_yes W 9 yy).mono ?_
   rintro r w' ⟨rfl,x,rfl⟩
   rw [plus_plus]
   go_wp2_with fail
   refine (kf3.out _).mono ?_
   rintro r w' ⟨rfl,x2,rfl⟩
   clear kf3
   go_wp2_with fail
   refine (kn2.out.at W x2).mono ?_
   rintro r w' ⟨rfl,x3,rfl⟩
   clear kn2
   go_wp2_with fail
   cases B with
   | true =>
    refine (need_yes W 5 x3).mono ?_
    rintro r w' ⟨rfl,x4,rfl⟩
    go_wp2
    refine bodyPost_ret (results_none rfl _ _ _) rfl ?_
    exact⟨rfl,by rw [hz'.out,plus_plus,plus_plus];exact⟨_,rfl⟩⟩
   | false =>
    refine (need_no W 5 x3).mono ?_
    rintro r w' ⟨rfl,x4,rfl⟩
    go_wp2
    exact⟨rfl,rfl,by rw [hz'.out,plus_plus,plus_plus];exact⟨_,rfl⟩⟩
  | false =>
   obtain⟨B,hB⟩:∃ B,(tw == k)=B:=⟨_,rfl⟩
   have hB2:endE (goesE ⟨tw,false,false⟩ F k) (.tuple #[])=endE (if B then 0 else 10) (.tuple #[]):=by
    rw [← hB]
    by_cases e:tw=k
    ·subst e;simp [goesE]
    ·simp [goesE,e]
   rw [hB2]
   clear kf' kn' hB2
   go_enter Tryz.func165,Tryz.ntmps165
   go_wp2_with fail
   obtain⟨W,yy,hW,⟨z,hz⟩,ca,cb⟩:=box2n V _ _ 75 45
   rw [hW]
   have c0:=ca 0 _ rfl
   have c2:=ca 2 _ rfl
   have hz':=Lib.hid hz
   clear hW ca cb hz
   refine (need_yes W 9 yy).mono ?_
   rintro r w' ⟨rfl,x,rfl⟩
   rw [plus_plus]
   go_wp2_with fail
   cases B with
   | true =>
    refine (need_yes W 10 _).mono ?_
    rintro r w' ⟨rfl,x4,rfl⟩
    go_wp2
    go_end0
    exact⟨rfl,by rw [hz'.out,plus_plus,plus_plus];exact⟨_,rfl⟩⟩
   | false =>
    refine (need_no W 10 _).mono ?_
    rintro r w' ⟨rfl,x4,rfl⟩
    go_wp2
    exact⟨rfl,rfl,by rw [hz'.out,plus_plus,plus_plus];exact⟨_,rfl⟩⟩
theorem box3f (V:World) (c d f:Array Value) (t u s:TypeId):∃ W y,((V.alloc (.cells c t)).alloc (.cells d u)).alloc (.cells f s)=plus W y∧(∃ z,W=plus V z)∧V.heap.size+1+1 < W.heap.size∧(∀ o v,c[o]?=v→∀ y,(plus W y).cell? ⟨V.heap.size,o,none⟩=v)∧(∀ o v,d[o]?=v→∀ y,(plus W y).cell? ⟨V.heap.size+1,o,none⟩=v)∧(∀ o v,f[o]?=v→∀ y,(plus W y).cell? ⟨V.heap.size+1+1,o,none⟩=v)∧(∀ y o,(plus W y).frozen? ⟨V.heap.size+1+1,o,none⟩=false):=by
 obtain⟨W,hW,hB,hs,ca,cb,cc,fa,fb,fc⟩:=box3 V c d f t u s
 exact⟨W,⟨#[],W.drawn⟩,by rw [plus_self,hW],plus_of_below hB,by omega,ca,cb,cc,fc⟩
/-- A type is laid into a block of one's own. -/
theorem ty_set {V U:World} (hU:∃ z,U=plus V z) (b:Nat) (hb:V.heap.size≤b) (u0 u1 u2 v0 v1 v2:Value) (r0:U.cell? ⟨b,0,none⟩=some u0) (r1:U.cell? ⟨b,1,none⟩=some u1) (r2:U.cell? ⟨b,2,none⟩=some u2) :
  ∃ X,(((U.setCell ⟨b,0,none⟩ v0).setCell ⟨b,1,none⟩ v1).setCell ⟨b,2,none⟩ v2)=X∧X.cell? ⟨b,0,none⟩=some v0∧X.cell? ⟨b,1,none⟩=some v1∧X.cell? ⟨b,2,none⟩=some v2∧∃ x,X=plus V x:=by
 have n01:(⟨b,0,none⟩:Addr)≠⟨b,1,none⟩:=by simp
 have n02:(⟨b,0,none⟩:Addr)≠⟨b,2,none⟩:=by simp
 have n12:(⟨b,1,none⟩:Addr)≠⟨b,2,none⟩:=by simp
 refine⟨_,rfl,?_,?_,?_,?_⟩
 ·rw [World.cell?_setCell_other (h:=n02.symm),World.cell?_setCell_other (h:=n01.symm)]
  exact World.cell?_setCell_same _ _ _ r0
 ·rw [World.cell?_setCell_other (h:=n12.symm)]
  exact World.cell?_setCell_same _ _ _ ((World.cell?_setCell_other _ _ _ _ n01).trans r1)
 ·exact World.cell?_setCell_same _ _ _ ((World.cell?_setCell_other _ _ _ _ n12).trans ((World.cell?_setCell_other _ _ _ _ n02).trans r2))
 ·obtain⟨z,rfl⟩:=hU
  exact plus_of_below ((((below_plus V z).setCell (by simpa using hb) v0).setCell (by simpa using hb) v1).setCell (by simpa using hb) v2)
/-- The result's block, still as it was made. -/
structure RB (V:World) (b:Nat) (U:World):Prop where
 up:∃ z,U=plus V z
 low:V.heap.size≤b
 r0:U.cell? ⟨b,0,none⟩=some (.int .i64 0)
 r1:U.cell? ⟨b,1,none⟩=some (.bool false)
 r2:U.cell? ⟨b,2,none⟩=some (.bool false)
 rf:∀ o,U.frozen? ⟨b,o,none⟩=false
theorem RB.set {V U:World} {b:Nat} (h:RB V b U) (t:Ty):∃ X,(((U.setCell ⟨b,0,none⟩ (.int .i64 t.w)).setCell ⟨b,1,none⟩ (.bool t.tr)).setCell ⟨b,2,none⟩ (.bool t.fr))=X∧X.cell? ⟨b,0,none⟩=some (.int .i64 t.w)∧X.cell? ⟨b,1,none⟩=some (.bool t.tr)∧X.cell? ⟨b,2,none⟩=some (.bool t.fr)∧∃ x,X=plus V x :=
 ty_set h.up b h.low _ _ _ _ _ _ h.r0 h.r1 h.r2
theorem rb_of {V W:World} {b:Nat} (hz:∃ z,W=plus V z) (hb:V.heap.size≤b) (cc:∀ o v,(#[.int .i64 0,.bool false,.bool false]:Array Value)[o]?=v→∀ y,(plus W y).cell? ⟨b,o,none⟩=v) (fc:∀ y o,(plus W y).frozen? ⟨b,o,none⟩=false) (y:Ext):RB V b (plus W y):=by
 obtain⟨z,rfl⟩:=hz
 exact⟨⟨_,plus_plus _ _ _⟩,hb,cc 0 _ rfl y,cc 1 _ rfl y,cc 2 _ rfl y,fc y⟩
set_option maxRecDepth 100000 in
set_option maxHeartbeats 8000000 in
theorem t_ofOne (e:Ex) (t:Ty) (w:World) (hw:bitsE t=0→e.hi < t.w→wrap64 (wrap64 (e.hi - e.lo)+1)=e.hi - e.lo+1) :
  KpE Tryz.prog w 50 #[e.val,t.v] (endE (singleT e.op e.hi e.lo t).1 (singleT e.op e.hi e.lo t).2.v):=by
 have kw:=t_width t w
 intro y0
 have kw:=kw.up y0
 obtain⟨V,hV⟩:∃ V,plus w y0=V:=⟨_,rfl⟩
 rw [hV] at kw ⊢
 clear hV
 obtain⟨op,⟨lw,lh,ll⟩,hd,nm,eh,el,ep,ec,eargs⟩:=e
 simp only [Ex.val,Ex.cells,Ex.op,Ex.lit,Ex.head,Ex.name,Ex.hi,Ex.lo,Ex.p,Ex.args,Ex.cap] at hw ⊢
 obtain⟨M,hM⟩:∃ M,eargs.length=M:=⟨_,rfl⟩
 rw [hM]
 obtain⟨tw,tt,tf⟩:=t
 obtain⟨E,hE⟩:∃ E,endE (singleT op eh el ⟨tw,tt,tf⟩).1 (singleT op eh el ⟨tw,tt,tf⟩).2.v=E:=⟨_,rfl⟩
 rw [hE]
 have hE':=Lib.hid hE
 clear hE
 simp only [Ty.v] at hw kw ⊢
 have hw':=Lib.hid hw
 have kw':=Lib.hid kw
 clear hM hw kw
 by_cases o9:op=9
 ·subst o9
  cases tt with
  | true =>
   obtain rfl:Ending.returned (.agg #[.int .i64 tw,.bool true,.bool tf])=E:=hE'.out
   go_enter Tryz.func50,Tryz.ntmps50
   go_wp2_with fail
   obtain⟨W,yy,hW,⟨z,hz⟩,hsz,ca,cb,cc,fc⟩:=box3f V _ _ _ 45 75 75
   rw [hW]
   have a6:=ca 6 _ rfl
   have a7:=ca 7 _ rfl
   have b0:=cb 0 _ rfl
   have b1:=cb 1 _ rfl
   have b2:=cb 2 _ rfl
   have hR:=Lib.hid (rb_of ⟨z,hz⟩ (show V.heap.size≤V.heap.size+1+1 by omega) cc fc)
   have kw2:=Lib.hid (kpE_at hz kw'.out)
   have hz':=Lib.hid hz
   clear hW ca cb cc fc hz hsz kw'
   refine (need_yes W 9 yy).mono ?_
   rintro r w' ⟨rfl,x1,rfl⟩
   rw [plus_plus]
   obtain⟨XX,hXX⟩:∃ XX:Ext,(⟨yy.blocks++x1.blocks,x1.draws⟩:Ext)=XX:=⟨_,rfl⟩
   rw [hXX]
   clear hXX
   have hRU:=hR.out XX
   have r0:=hRU.r0
   have r1:=hRU.r1
   have r2:=hRU.r2
   have rf:=hRU.rf
   have hRU':=Lib.hid hRU
   clear hRU hR
   go_wp2
   obtain⟨X,hX,g0,g1,g2,hV⟩:=hRU'.out.set ⟨tw,true,tf⟩
   simp only at hX
   rw [hX]
   clear hX
   exact bodyPost_ret (v:=.agg #[.int .i64 tw,.bool true,.bool tf]) (by simp [results,Tryz.results50,go_sem,g0,g1,g2]) rfl ⟨rfl,hV⟩
  | false =>
   obtain rfl:gaveE 9=E:=hE'.out
   go_enter Tryz.func50,Tryz.ntmps50
   go_wp2_with fail
   obtain⟨W,yy,hW,⟨z,hz⟩,hsz,ca,cb,cc,fc⟩:=box3f V _ _ _ 45 75 75
   rw [hW]
   have a6:=ca 6 _ rfl
   have a7:=ca 7 _ rfl
   have b0:=cb 0 _ rfl
   have b1:=cb 1 _ rfl
   have b2:=cb 2 _ rfl
   have hR:=Lib.hid (rb_of ⟨z,hz⟩ (show V.heap.size≤V.heap.size+1+1 by omega) cc fc)
   have kw2:=Lib.hid (kpE_at hz kw'.out)
   have hz':=Lib.hid hz
   clear hW ca cb cc fc hz hsz kw'
   refine (need_no W 9 yy).mono ?_
   rintro r w' ⟨rfl,x9,rfl⟩
   go_wp2
   exact⟨rfl,rfl,by rw [hz'.out,plus_plus,plus_plus];exact⟨_,rfl⟩⟩
 have m9:(op == 9)=false:=by simpa using o9
 by_cases o10:op=10
 ·subst o10
  cases tt with
  | true =>
   obtain rfl:gaveE 9=E:=hE'.out
   rw [show (if bitsE ⟨tw,true,tf⟩=0 then Ending.returned (.int .i64 tw) else gaveE (bitsE ⟨tw,true,tf⟩))=gaveE 9 from rfl] at kw'
   go_enter Tryz.func50,Tryz.ntmps50
   go_wp2_with fail
   obtain⟨W,yy,hW,⟨z,hz⟩,hsz,ca,cb,cc,fc⟩:=box3f V _ _ _ 45 75 75
   rw [hW]
   have a6:=ca 6 _ rfl
   have a7:=ca 7 _ rfl
   have b0:=cb 0 _ rfl
   have b1:=cb 1 _ rfl
   have b2:=cb 2 _ rfl
   have hR:=Lib.hid (rb_of ⟨z,hz⟩ (show V.heap.size≤V.heap.size+1+1 by omega) cc fc)
   have kw2:=Lib.hid (kpE_at hz kw'.out)
   have hz':=Lib.hid hz
   clear hW ca cb cc fc hz hsz kw'
   have kwd:=Lib.hid (kw2.out ⟨yy.blocks,yy.draws+1⟩)
   clear kw2
   go_region_dies
   all_goals
    refine (kwd.out).mono ?_
    rintro r w' ⟨rfl,x1,rfl⟩
    exact⟨rfl,rfl,pp hz'.out⟩
  | false =>
   cases tf with
   | true =>
    obtain rfl:gaveE 10=E:=hE'.out
    rw [show (if bitsE ⟨tw,false,true⟩=0 then Ending.returned (.int .i64 tw) else gaveE (bitsE ⟨tw,false,true⟩))=gaveE 10 from rfl] at kw'
    go_enter Tryz.func50,Tryz.ntmps50
    go_wp2_with fail
    obtain⟨W,yy,hW,⟨z,hz⟩,hsz,ca,cb,cc,fc⟩:=box3f V _ _ _ 45 75 75
    rw [hW]
    have a6:=ca 6 _ rfl
    have a7:=ca 7 _ rfl
    have b0:=cb 0 _ rfl
    have b1:=cb 1 _ rfl
    have b2:=cb 2 _ rfl
    have hR:=Lib.hid (rb_of ⟨z,hz⟩ (show V.heap.size≤V.heap.size+1+1 by omega) cc fc)
    have kw2:=Lib.hid (kpE_at hz kw'.out)
    have hz':=Lib.hid hz
    clear hW ca cb cc fc hz hsz kw'
    have kwd:=Lib.hid (kw2.out ⟨yy.blocks,yy.draws+1⟩)
    clear kw2
    go_region_dies
    all_goals
     refine (kwd.out).mono ?_
     rintro r w' ⟨rfl,x1,rfl⟩
     exact⟨rfl,rfl,pp hz'.out⟩
   | false =>
    rw [show (if bitsE ⟨tw,false,false⟩=0 then Ending.returned (.int .i64 tw) else gaveE (bitsE ⟨tw,false,false⟩))=.returned (.int .i64 tw) from rfl] at kw'
    by_cases q:eh < tw
    ·have hs:endE (singleT 10 eh el ⟨tw,false,false⟩).1 (singleT 10 eh el ⟨tw,false,false⟩).2.v=.returned (.agg #[.int .i64 (eh - el+1),.bool false,.bool false]):=by
      have q2:¬ tw≤eh:=by omega
      simp [singleT,bitsE,q2,endE,tyW,Ty.v]
     obtain rfl:=hs.symm.trans hE'.out
     clear hs
     go_enter Tryz.func50,Tryz.ntmps50
     go_wp2_with fail
     obtain⟨W,yy,hW,⟨z,hz⟩,hsz,ca,cb,cc,fc⟩:=box3f V _ _ _ 45 75 75
     rw [hW]
     have a6:=ca 6 _ rfl
     have a7:=ca 7 _ rfl
     have b0:=cb 0 _ rfl
     have b1:=cb 1 _ rfl
     have b2:=cb 2 _ rfl
     have hR:=Lib.hid (rb_of ⟨z,hz⟩ (show V.heap.size≤V.heap.size+1+1 by omega) cc fc)
     have kw2:=Lib.hid (kpE_at hz kw'.out)
     have hz':=Lib.hid hz
     clear hW ca cb cc fc hz hsz kw'
     refine wp_region_own_tail 5 (by kernel_rfl) (by kernel_rfl) ?_
     simp only [List.take_succ_cons,List.take_zero,List.drop_succ_cons,List.drop_zero]
     repeat (go_big_quiet_step (first|(with_reducible exact kw2.out _)))
     refine wpQuiet_nil ?_
     rintro _ ⟨y1,rfl⟩
     go_wp2_with fail
     refine (need_yes W 5 y1).mono ?_
     rintro r w' ⟨rfl,x1,rfl⟩
     rw [plus_plus]
     have hwr:=Lib.hid (hw'.out rfl q)
     clear kw2
     obtain⟨XX,hXX⟩:∃ XX:Ext,(⟨y1.blocks++x1.blocks,x1.draws⟩:Ext)=XX:=⟨_,rfl⟩
     rw [hXX]
     clear hXX
     go_wp2_with fail
     rw [hwr.out]
     refine (t_bits (eh - el+1) W XX).mono ?_
     rintro r w' ⟨rfl,x2,rfl⟩
     rw [plus_plus]
     obtain⟨XY,hXY⟩:∃ YY:Ext,(⟨XX.blocks++x2.blocks,x2.draws⟩:Ext)=YY:=⟨_,rfl⟩
     rw [hXY]
     clear hXY hwr
     have hRU:=hR.out XY
     have r0:=hRU.r0
     have r1:=hRU.r1
     have r2:=hRU.r2
     have rf:=hRU.rf
     have hRU':=Lib.hid hRU
     clear hRU hR
     simp only [Ty.v,tyW]
     go_wp2
     obtain⟨X,hX,g0,g1,g2,hV⟩:=hRU'.out.set (tyW (eh - el+1))
     simp only [tyW] at hX g0 g1 g2
     rw [hX]
     clear hX
     exact bodyPost_ret (v:=.agg #[.int .i64 (eh - el+1),.bool false,.bool false]) (by simp [results,Tryz.results50,go_sem,g0,g1,g2]) rfl ⟨rfl,hV⟩
    ·obtain rfl:gaveE 5=E:=by
      have hs:endE (singleT 10 eh el ⟨tw,false,false⟩).1 (singleT 10 eh el ⟨tw,false,false⟩).2.v=gaveE 5:=by
       have q2:tw≤eh:=by omega
       simp [singleT,bitsE,q2,endE]
      exact hs.symm.trans hE'.out
     go_enter Tryz.func50,Tryz.ntmps50
     go_wp2_with fail
     obtain⟨W,yy,hW,⟨z,hz⟩,hsz,ca,cb,cc,fc⟩:=box3f V _ _ _ 45 75 75
     rw [hW]
     have a6:=ca 6 _ rfl
     have b0:=cb 0 _ rfl
     have b1:=cb 1 _ rfl
     have b2:=cb 2 _ rfl
     have kw2:=Lib.hid (kpE_at hz kw'.out)
     have hz':=Lib.hid hz
     clear hW ca cb cc fc hz hsz kw'
     refine wp_region_own_tail 5 (by kernel_rfl) (by kernel_rfl) ?_
     simp only [List.take_succ_cons,List.take_zero,List.drop_succ_cons,List.drop_zero]
     repeat (go_big_quiet_step (first|(with_reducible exact kw2.out _)))
     refine wpQuiet_nil ?_
     rintro _ ⟨y1,rfl⟩
     clear kw2
     go_wp2_with fail
     rw [show decide (eh < tw)=false by simpa using q]
     refine (need_no W 5 y1).mono ?_
     rintro r w' ⟨rfl,x1,rfl⟩
     go_wp2
     exact⟨rfl,rfl,by rw [hz'.out,plus_plus,plus_plus];exact⟨_,rfl⟩⟩
 have m10:(op == 10)=false:=by simpa using o10
 have ho:(singleT op eh el ⟨tw,tt,tf⟩)=if tt then (9,ty0) else (0,⟨tw,tt,tf⟩):=by
  simp [singleT,o9,o10]
 rw [ho] at hE'
 cases tt with
 | true =>
  obtain rfl:gaveE 9=E:=hE'.out
  go_enter Tryz.func50,Tryz.ntmps50
  go_wp2_with fail
  obtain⟨W,yy,hW,⟨z,hz⟩,hsz,ca,cb,cc,fc⟩:=box3f V _ _ _ 45 75 75
  rw [hW]
  have b0:=cb 0 _ rfl
  have b1:=cb 1 _ rfl
  have b2:=cb 2 _ rfl
  have hz':=Lib.hid hz
  clear hW ca cb cc fc hz hsz kw'
  refine (need_no W 9 yy).mono ?_
  rintro r w' ⟨rfl,x9,rfl⟩
  go_wp2
  exact⟨rfl,rfl,by rw [hz'.out,plus_plus,plus_plus];exact⟨_,rfl⟩⟩
 | false =>
  obtain rfl:Ending.returned (.agg #[.int .i64 tw,.bool false,.bool tf])=E:=hE'.out
  go_enter Tryz.func50,Tryz.ntmps50
  go_wp2_with fail
  obtain⟨W,yy,hW,⟨z,hz⟩,hsz,ca,cb,cc,fc⟩:=box3f V _ _ _ 45 75 75
  rw [hW]
  have b0:=cb 0 _ rfl
  have b1:=cb 1 _ rfl
  have b2:=cb 2 _ rfl
  have hR:=Lib.hid (rb_of ⟨z,hz⟩ (show V.heap.size≤V.heap.size+1+1 by omega) cc fc)
  have hz':=Lib.hid hz
  clear hW ca cb cc fc hz hsz kw'
  refine (need_yes W 9 yy).mono ?_
  rintro r w' ⟨rfl,x1,rfl⟩
  rw [plus_plus]
  obtain⟨XX,hXX⟩:∃ XX:Ext,(⟨yy.blocks++x1.blocks,x1.draws⟩:Ext)=XX:=⟨_,rfl⟩
  rw [hXX]
  clear hXX
  have hRU:=hR.out XX
  have r0:=hRU.r0
  have r1:=hRU.r1
  have r2:=hRU.r2
  have rf:=hRU.rf
  have hRU':=Lib.hid hRU
  clear hRU hR
  go_wp2
  obtain⟨X,hX,g0,g1,g2,hV⟩:=hRU'.out.set ⟨tw,false,tf⟩
  simp only at hX
  rw [hX]
  clear hX
  exact bodyPost_ret (v:=.agg #[.int .i64 tw,.bool false,.bool tf]) (by simp [results,Tryz.results50,go_sem,g0,g1,g2]) rfl ⟨rfl,hV⟩
theorem kpE_up {V W:World} {z:Ext} {f:FuncId} {args:Array Value} {E:Ending} (hz:W=plus V z) (h:KpE Tryz.prog V f args E):KpE Tryz.prog W f args E:=by
 subst hz;exact h.up z
set_option maxRecDepth 100000 in
set_option maxHeartbeats 16000000 in
theorem t_common (e x y:Ex) (s t:Ty) (w:World) (hin:e.In w) (hx:e.args[0]?=some x) (hy:e.args[1]?=some y) (cx:s.fr=true→x.chain=true) (cy:t.fr=true→y.chain=true) :
  KpE Tryz.prog w 128 #[e.val,s.v,t.v] (endE (sidesT x.free y.free s t).1 (.int .i64 (sidesT x.free y.free s t).2)):=by
 intro y0
 obtain⟨_,_,_,_,_,_,_,_,_,hrow,hkids⟩:=hin
 have g1:=fun k=>(t_goesAs s x k w (hkids x (List.mem_of_getElem? hx)) cx).up y0
 have g2:=fun k=>(t_goesAs t y k w (hkids y (List.mem_of_getElem? hy)) cy).up y0
 have hrow:=hrow.plus y0
 clear hkids cx cy
 obtain⟨V,hV⟩:∃ V,plus w y0=V:=⟨_,rfl⟩
 rw [hV] at hrow g1 g2 ⊢
 clear hV
 obtain⟨pa,hpa,hcx⟩:=hrow 0 x hx
 obtain⟨pb,hpb,hcy⟩:=hrow 1 y hy
 have hpp:pb=pa:=Option.some.inj (hpb.symm.trans hpa)
 subst hpp
 have hlen:1 < e.args.length:=(List.getElem?_eq_some_iff.1 hy).1
 simp only [Nat.zero_mul,Addr.add_zero'] at hcx
 simp only [Nat.one_mul] at hcy
 rw [show pb.add 9=⟨pb.block,pb.off+9,none⟩ by simp [Addr.add]] at hcy
 obtain⟨n,hn⟩:∃ n,x.free=n:=⟨_,rfl⟩
 obtain⟨m,hm⟩:∃ m,y.free=m:=⟨_,rfl⟩
 rw [hn] at g1 ⊢
 rw [hm] at g2 ⊢
 obtain⟨op,⟨lw,lh,ll⟩,hd,nm,eh,el,ep,ec,eargs⟩:=e
 simp only [Ex.val,Ex.cells,Ex.op,Ex.lit,Ex.head,Ex.name,Ex.hi,Ex.lo,Ex.p,Ex.args,Ex.cap] at hpa hlen ⊢
 subst hpa
 obtain⟨M,hM⟩:∃ M,eargs.length=M:=⟨_,rfl⟩
 rw [hM] at hlen ⊢
 obtain⟨xop,⟨xlw,xlh,xll⟩,xhd,xnm,xeh,xel,xep,xec,xargs⟩:=x
 obtain⟨yop,⟨ylw,ylh,yll⟩,yhd,ynm,yeh,yel,yep,yec,yargs⟩:=y
 simp only [Ex.val,Ex.cells,Ex.op,Ex.lit,Ex.head,Ex.name,Ex.hi,Ex.lo,Ex.p,Ex.args,Ex.cap] at g1 g2 hcx hcy
 clear hrow hpb hx hy hM hn hm
 obtain⟨sw,st,sf⟩:=s
 obtain⟨tw,tt,tf⟩:=t
 obtain⟨E,hE⟩:∃ E,endE (sidesT n m ⟨sw,st,sf⟩ ⟨tw,tt,tf⟩).1 (.int .i64 (sidesT n m ⟨sw,st,sf⟩ ⟨tw,tt,tf⟩).2)=E:=⟨_,rfl⟩
 rw [hE]
 have hE':=Lib.hid hE
 have g1':=Lib.hid g1
 have g2':=Lib.hid g2
 have hcx':=Lib.hid hcx
 have hcy':=Lib.hid hcy
 clear hE g1 g2 hcx hcy
 simp only [Ty.v] at g1' g2' ⊢
 cases st with
 | true =>
  obtain rfl:gaveE 9=E:=by rw [← hE'.out];simp [sidesT,endE]
  clear g1' g2' hcx' hcy' hE'
  go_enter Tryz.func128,Tryz.ntmps128
  go_wp2_with fail
  obtain⟨X,hX,hB,-,ca,cb,cc,-,-,-⟩:=box3 V _ _ _ 45 75 75
  rw [← hX]
  obtain⟨zX,hzX⟩:=plus_of_below hB
  have c6:=ca 6 _ rfl
  have c8:=ca 8 _ rfl
  have s0:=cb 0 _ rfl
  have s1:=cb 1 _ rfl
  have s2:=cb 2 _ rfl
  have t0:=cc 0 _ rfl
  have t1:=cc 1 _ rfl
  have t2:=cc 2 _ rfl
  have hz3:=Lib.hid hzX
  clear hX hB ca cb cc hzX
  rw [← plus_self X]
  obtain⟨Y0,hY0⟩:∃ Y:Ext,(⟨#[],X.drawn⟩:Ext)=Y:=⟨_,rfl⟩
  rw [hY0]
  clear hY0
  refine (need_no X 9 Y0).mono ?_
  rintro r w' ⟨rfl,x9,rfl⟩
  go_wp2
  exact⟨rfl,rfl,by rw [hz3.out,plus_plus,plus_plus];exact⟨_,rfl⟩⟩
 | false =>
  cases tt with
  | true =>
   obtain rfl:gaveE 9=E:=by rw [← hE'.out];simp [sidesT,endE]
   clear g1' g2' hcx' hcy' hE'
   go_enter Tryz.func128,Tryz.ntmps128
   go_wp2_with fail
   obtain⟨X,hX,hB,-,ca,cb,cc,-,-,-⟩:=box3 V _ _ _ 45 75 75
   rw [← hX]
   obtain⟨zX,hzX⟩:=plus_of_below hB
   have c6:=ca 6 _ rfl
   have c8:=ca 8 _ rfl
   have s0:=cb 0 _ rfl
   have s1:=cb 1 _ rfl
   have s2:=cb 2 _ rfl
   have t0:=cc 0 _ rfl
   have t1:=cc 1 _ rfl
   have t2:=cc 2 _ rfl
   have hz3:=Lib.hid hzX
   clear hX hB ca cb cc hzX
   rw [← plus_self X]
   obtain⟨Y0,hY0⟩:∃ Y:Ext,(⟨#[],X.drawn⟩:Ext)=Y:=⟨_,rfl⟩
   rw [hY0]
   clear hY0
   refine (need_no X 9 Y0).mono ?_
   rintro r w' ⟨rfl,x9,rfl⟩
   go_wp2
   exact⟨rfl,rfl,by rw [hz3.out,plus_plus,plus_plus];exact⟨_,rfl⟩⟩
  | false =>
   cases sf with
   | true =>
    cases tf with
    | true =>
     obtain rfl:gaveE 10=E:=by rw [← hE'.out];simp [sidesT,endE]
     clear g1' g2' hcx' hcy' hE'
     go_enter Tryz.func128,Tryz.ntmps128
     go_wp2_with fail
     obtain⟨X,hX,hB,-,ca,cb,cc,-,-,-⟩:=box3 V _ _ _ 45 75 75
     rw [← hX]
     obtain⟨zX,hzX⟩:=plus_of_below hB
     have c6:=ca 6 _ rfl
     have c8:=ca 8 _ rfl
     have s0:=cb 0 _ rfl
     have s1:=cb 1 _ rfl
     have s2:=cb 2 _ rfl
     have t0:=cc 0 _ rfl
     have t1:=cc 1 _ rfl
     have t2:=cc 2 _ rfl
     have hz3:=Lib.hid hzX
     clear hX hB ca cb cc hzX
     rw [← plus_self X]
     obtain⟨Y0,hY0⟩:∃ Y:Ext,(⟨#[],X.drawn⟩:Ext)=Y:=⟨_,rfl⟩
     rw [hY0]
     clear hY0
     refine (need_yes X 9 Y0).mono ?_
     rintro r w' ⟨rfl,a1,rfl⟩
     rw [plus_plus]
     obtain⟨Ya1,hYa1⟩:∃ Y:Ext,(⟨Ext.blocks Y0++a1.blocks,a1.draws⟩:Ext)=Y:=⟨_,rfl⟩
     rw [hYa1]
     clear hYa1
     go_wp2_with fail
     refine (need_no X 10 Ya1).mono ?_
     rintro r w' ⟨rfl,x9,rfl⟩
     go_wp2
     exact⟨rfl,rfl,by rw [hz3.out,plus_plus,plus_plus];exact⟨_,rfl⟩⟩
    | false =>
     go_enter Tryz.func128,Tryz.ntmps128
     go_wp2_with fail
     obtain⟨X,hX,hB,-,ca,cb,cc,-,-,-⟩:=box3 V _ _ _ 45 75 75
     rw [← hX]
     obtain⟨zX,hzX⟩:=plus_of_below hB
     have c6:=ca 6 _ rfl
     have c8:=ca 8 _ rfl
     have s0:=cb 0 _ rfl
     have s1:=cb 1 _ rfl
     have s2:=cb 2 _ rfl
     have t0:=cc 0 _ rfl
     have t1:=cc 1 _ rfl
     have t2:=cc 2 _ rfl
     have hz3:=Lib.hid hzX
     clear hX hB ca cb cc hzX
     rw [← plus_self X]
     obtain⟨Y0,hY0⟩:∃ Y:Ext,(⟨#[],X.drawn⟩:Ext)=Y:=⟨_,rfl⟩
     rw [hY0]
     clear hY0
     refine (need_yes X 9 Y0).mono ?_
     rintro r w' ⟨rfl,a1,rfl⟩
     rw [plus_plus]
     obtain⟨Ya1,hYa1⟩:∃ Y:Ext,(⟨Ext.blocks Y0++a1.blocks,a1.draws⟩:Ext)=Y:=⟨_,rfl⟩
     rw [hYa1]
     clear hYa1
     go_wp2_with fail
     refine (need_yes X 10 Ya1).mono ?_
     rintro r w' ⟨rfl,a2,rfl⟩
     rw [plus_plus]
     obtain⟨Ya2,hYa2⟩:∃ Y:Ext,(⟨Ext.blocks Ya1++a2.blocks,a2.draws⟩:Ext)=Y:=⟨_,rfl⟩
     rw [hYa2]
     clear hYa2
     go_wp2_with fail
     obtain⟨R1,hR1⟩:∃ R,goesE ⟨sw,false,true⟩ n tw=R:=⟨_,rfl⟩
     obtain⟨R2,hR2⟩:∃ R,goesE ⟨tw,false,false⟩ m tw=R:=⟨_,rfl⟩
     have q1:=kpE_at hz3.out (g1'.out tw)
     have q2:=kpE_at hz3.out (g2'.out tw)
     rw [hR1] at q1
     rw [hR2] at q2
     have q1':=Lib.hid q1
     have q2':=Lib.hid q2
     have ux:=cells_up hz3.out hcx'.out
     have x0:=fun y=>(ux.plus y).c0 _ rfl
     have x1:=fun y=>(ux.plus y).cs 0 _ rfl
     have x2:=fun y=>(ux.plus y).cs 1 _ rfl
     have x3:=fun y=>(ux.plus y).cs 2 _ rfl
     have x4:=fun y=>(ux.plus y).cs 3 _ rfl
     have x5:=fun y=>(ux.plus y).cs 4 _ rfl
     have x6:=fun y=>(ux.plus y).cs 5 _ rfl
     have x7:=fun y=>(ux.plus y).cs 6 _ rfl
     have x8:=fun y=>(ux.plus y).cs 7 _ rfl
     have uy:=cells_up hz3.out hcy'.out
     have y0:=fun y=>(uy.plus y).c0 _ rfl
     have y1:=fun y=>(uy.plus y).cs 0 _ rfl
     have y2:=fun y=>(uy.plus y).cs 1 _ rfl
     have y3:=fun y=>(uy.plus y).cs 2 _ rfl
     have y4:=fun y=>(uy.plus y).cs 3 _ rfl
     have y5:=fun y=>(uy.plus y).cs 4 _ rfl
     have y6:=fun y=>(uy.plus y).cs 5 _ rfl
     have y7:=fun y=>(uy.plus y).cs 6 _ rfl
     have y8:=fun y=>(uy.plus y).cs 7 _ rfl
     clear q1 q2 ux uy
     refine wp_region_own_tail 6 (by kernel_rfl) (by kernel_rfl) ?_
     simp only [List.take_succ_cons,List.take_zero,List.drop_succ_cons,List.drop_zero]
     repeat (go_big_quiet_step (fail))
     refine wpQuiet_nil ?_
     rintro _ ⟨v1,rfl⟩
     go_wp2_with fail
     refine (q1'.out v1).mono ?_
     rintro r w' ⟨rfl,v2,rfl⟩
     by_cases z1:R1=0
     ·subst z1
      simp only [endE,if_pos]
      go_wp2_with fail
      refine wp_region_own_tail 6 (by kernel_rfl) (by kernel_rfl) ?_
      simp only [List.take_succ_cons,List.take_zero,List.drop_succ_cons,List.drop_zero]
      repeat (go_big_quiet_step (fail))
      refine wpQuiet_nil ?_
      rintro _ ⟨v3,rfl⟩
      go_wp2_with fail
      refine (q2'.out v3).mono ?_
      rintro r w' ⟨rfl,v4,rfl⟩
      by_cases z2:R2=0
      ·subst z2
       obtain rfl:Ending.returned (.int .i64 tw)=E:=by have:=hR1;rw [← hE'.out];cases hf:fitsN n tw <;> simp [goesE,hf,sidesT,endE] at this ⊢
       simp only [endE,if_pos]
       go_wp2
       go_ret
       exact⟨rfl,by rw [hz3.out,plus_plus];exact⟨_,rfl⟩⟩
      ·obtain rfl:gaveE R2=E:=absurd (hR2.symm.trans (by simp [goesE])) z2
       rw [endE,if_neg z2]
       go_wp2
       exact⟨rfl,rfl,by rw [hz3.out,plus_plus];exact⟨_,rfl⟩⟩
     ·obtain rfl:gaveE R1=E:=by have:=hR1;rw [← hE'.out];cases hf:fitsN n tw <;> simp [goesE,hf,sidesT,endE] at this ⊢ <;> first|(rw [← this])|(exact absurd this.symm z1)
      rw [endE,if_neg z1]
      go_wp2
      exact⟨rfl,rfl,by rw [hz3.out,plus_plus];exact⟨_,rfl⟩⟩
   | false =>
    cases tf with
    | true =>
     go_enter Tryz.func128,Tryz.ntmps128
     go_wp2_with fail
     obtain⟨X,hX,hB,-,ca,cb,cc,-,-,-⟩:=box3 V _ _ _ 45 75 75
     rw [← hX]
     obtain⟨zX,hzX⟩:=plus_of_below hB
     have c6:=ca 6 _ rfl
     have c8:=ca 8 _ rfl
     have s0:=cb 0 _ rfl
     have s1:=cb 1 _ rfl
     have s2:=cb 2 _ rfl
     have t0:=cc 0 _ rfl
     have t1:=cc 1 _ rfl
     have t2:=cc 2 _ rfl
     have hz3:=Lib.hid hzX
     clear hX hB ca cb cc hzX
     rw [← plus_self X]
     obtain⟨Y0,hY0⟩:∃ Y:Ext,(⟨#[],X.drawn⟩:Ext)=Y:=⟨_,rfl⟩
     rw [hY0]
     clear hY0
     refine (need_yes X 9 Y0).mono ?_
     rintro r w' ⟨rfl,a1,rfl⟩
     rw [plus_plus]
     obtain⟨Ya1,hYa1⟩:∃ Y:Ext,(⟨Ext.blocks Y0++a1.blocks,a1.draws⟩:Ext)=Y:=⟨_,rfl⟩
     rw [hYa1]
     clear hYa1
     go_wp2_with fail
     refine (need_yes X 10 Ya1).mono ?_
     rintro r w' ⟨rfl,a2,rfl⟩
     rw [plus_plus]
     obtain⟨Ya2,hYa2⟩:∃ Y:Ext,(⟨Ext.blocks Ya1++a2.blocks,a2.draws⟩:Ext)=Y:=⟨_,rfl⟩
     rw [hYa2]
     clear hYa2
     go_wp2_with fail
     obtain⟨R1,hR1⟩:∃ R,goesE ⟨sw,false,false⟩ n sw=R:=⟨_,rfl⟩
     obtain⟨R2,hR2⟩:∃ R,goesE ⟨tw,false,true⟩ m sw=R:=⟨_,rfl⟩
     have q1:=kpE_at hz3.out (g1'.out sw)
     have q2:=kpE_at hz3.out (g2'.out sw)
     rw [hR1] at q1
     rw [hR2] at q2
     have q1':=Lib.hid q1
     have q2':=Lib.hid q2
     have ux:=cells_up hz3.out hcx'.out
     have x0:=fun y=>(ux.plus y).c0 _ rfl
     have x1:=fun y=>(ux.plus y).cs 0 _ rfl
     have x2:=fun y=>(ux.plus y).cs 1 _ rfl
     have x3:=fun y=>(ux.plus y).cs 2 _ rfl
     have x4:=fun y=>(ux.plus y).cs 3 _ rfl
     have x5:=fun y=>(ux.plus y).cs 4 _ rfl
     have x6:=fun y=>(ux.plus y).cs 5 _ rfl
     have x7:=fun y=>(ux.plus y).cs 6 _ rfl
     have x8:=fun y=>(ux.plus y).cs 7 _ rfl
     have uy:=cells_up hz3.out hcy'.out
     have y0:=fun y=>(uy.plus y).c0 _ rfl
     have y1:=fun y=>(uy.plus y).cs 0 _ rfl
     have y2:=fun y=>(uy.plus y).cs 1 _ rfl
     have y3:=fun y=>(uy.plus y).cs 2 _ rfl
     have y4:=fun y=>(uy.plus y).cs 3 _ rfl
     have y5:=fun y=>(uy.plus y).cs 4 _ rfl
     have y6:=fun y=>(uy.plus y).cs 5 _ rfl
     have y7:=fun y=>(uy.plus y).cs 6 _ rfl
     have y8:=fun y=>(uy.plus y).cs 7 _ rfl
     clear q1 q2 ux uy
     refine wp_region_own_tail 6 (by kernel_rfl) (by kernel_rfl) ?_
     simp only [List.take_succ_cons,List.take_zero,List.drop_succ_cons,List.drop_zero]
     repeat (go_big_quiet_step (fail))
     refine wpQuiet_nil ?_
     rintro _ ⟨v1,rfl⟩
     go_wp2_with fail
     refine (q1'.out v1).mono ?_
     rintro r w' ⟨rfl,v2,rfl⟩
     by_cases z1:R1=0
     ·subst z1
      simp only [endE,if_pos]
      go_wp2_with fail
      refine wp_region_own_tail 6 (by kernel_rfl) (by kernel_rfl) ?_
      simp only [List.take_succ_cons,List.take_zero,List.drop_succ_cons,List.drop_zero]
      repeat (go_big_quiet_step (fail))
      refine wpQuiet_nil ?_
      rintro _ ⟨v3,rfl⟩
      go_wp2_with fail
      refine (q2'.out v3).mono ?_
      rintro r w' ⟨rfl,v4,rfl⟩
      by_cases z2:R2=0
      ·subst z2
       obtain rfl:Ending.returned (.int .i64 sw)=E:=by have:=hR2;rw [← hE'.out];cases hf:fitsN m sw <;> simp [goesE,hf,sidesT,endE] at this ⊢
       simp only [endE,if_pos]
       go_wp2
       go_ret
       exact⟨rfl,by rw [hz3.out,plus_plus];exact⟨_,rfl⟩⟩
      ·obtain rfl:gaveE R2=E:=by have:=hR2;rw [← hE'.out];cases hf:fitsN m sw <;> simp [goesE,hf,sidesT,endE] at this ⊢ <;> first|(rw [← this])|(exact absurd this.symm z2)
       rw [endE,if_neg z2]
       go_wp2
       exact⟨rfl,rfl,by rw [hz3.out,plus_plus];exact⟨_,rfl⟩⟩
     ·obtain rfl:gaveE R1=E:=absurd (hR1.symm.trans (by simp [goesE])) z1
      rw [endE,if_neg z1]
      go_wp2
      exact⟨rfl,rfl,by rw [hz3.out,plus_plus];exact⟨_,rfl⟩⟩
    | false =>
     go_enter Tryz.func128,Tryz.ntmps128
     go_wp2_with fail
     obtain⟨X,hX,hB,-,ca,cb,cc,-,-,-⟩:=box3 V _ _ _ 45 75 75
     rw [← hX]
     obtain⟨zX,hzX⟩:=plus_of_below hB
     have c6:=ca 6 _ rfl
     have c8:=ca 8 _ rfl
     have s0:=cb 0 _ rfl
     have s1:=cb 1 _ rfl
     have s2:=cb 2 _ rfl
     have t0:=cc 0 _ rfl
     have t1:=cc 1 _ rfl
     have t2:=cc 2 _ rfl
     have hz3:=Lib.hid hzX
     clear hX hB ca cb cc hzX
     rw [← plus_self X]
     obtain⟨Y0,hY0⟩:∃ Y:Ext,(⟨#[],X.drawn⟩:Ext)=Y:=⟨_,rfl⟩
     rw [hY0]
     clear hY0
     refine (need_yes X 9 Y0).mono ?_
     rintro r w' ⟨rfl,a1,rfl⟩
     rw [plus_plus]
     obtain⟨Ya1,hYa1⟩:∃ Y:Ext,(⟨Ext.blocks Y0++a1.blocks,a1.draws⟩:Ext)=Y:=⟨_,rfl⟩
     rw [hYa1]
     clear hYa1
     go_wp2_with fail
     refine (need_yes X 10 Ya1).mono ?_
     rintro r w' ⟨rfl,a2,rfl⟩
     rw [plus_plus]
     obtain⟨Ya2,hYa2⟩:∃ Y:Ext,(⟨Ext.blocks Ya1++a2.blocks,a2.draws⟩:Ext)=Y:=⟨_,rfl⟩
     rw [hYa2]
     clear hYa2
     go_wp2_with fail
     obtain⟨R1,hR1⟩:∃ R,goesE ⟨sw,false,false⟩ n sw=R:=⟨_,rfl⟩
     obtain⟨R2,hR2⟩:∃ R,goesE ⟨tw,false,false⟩ m sw=R:=⟨_,rfl⟩
     have q1:=kpE_at hz3.out (g1'.out sw)
     have q2:=kpE_at hz3.out (g2'.out sw)
     rw [hR1] at q1
     rw [hR2] at q2
     have q1':=Lib.hid q1
     have q2':=Lib.hid q2
     have ux:=cells_up hz3.out hcx'.out
     have x0:=fun y=>(ux.plus y).c0 _ rfl
     have x1:=fun y=>(ux.plus y).cs 0 _ rfl
     have x2:=fun y=>(ux.plus y).cs 1 _ rfl
     have x3:=fun y=>(ux.plus y).cs 2 _ rfl
     have x4:=fun y=>(ux.plus y).cs 3 _ rfl
     have x5:=fun y=>(ux.plus y).cs 4 _ rfl
     have x6:=fun y=>(ux.plus y).cs 5 _ rfl
     have x7:=fun y=>(ux.plus y).cs 6 _ rfl
     have x8:=fun y=>(ux.plus y).cs 7 _ rfl
     have uy:=cells_up hz3.out hcy'.out
     have y0:=fun y=>(uy.plus y).c0 _ rfl
     have y1:=fun y=>(uy.plus y).cs 0 _ rfl
     have y2:=fun y=>(uy.plus y).cs 1 _ rfl
     have y3:=fun y=>(uy.plus y).cs 2 _ rfl
     have y4:=fun y=>(uy.plus y).cs 3 _ rfl
     have y5:=fun y=>(uy.plus y).cs 4 _ rfl
     have y6:=fun y=>(uy.plus y).cs 5 _ rfl
     have y7:=fun y=>(uy.plus y).cs 6 _ rfl
     have y8:=fun y=>(uy.plus y).cs 7 _ rfl
     clear q1 q2 ux uy
     refine wp_region_own_tail 6 (by kernel_rfl) (by kernel_rfl) ?_
     simp only [List.take_succ_cons,List.take_zero,List.drop_succ_cons,List.drop_zero]
     repeat (go_big_quiet_step (fail))
     refine wpQuiet_nil ?_
     rintro _ ⟨v1,rfl⟩
     go_wp2_with fail
     refine (q1'.out v1).mono ?_
     rintro r w' ⟨rfl,v2,rfl⟩
     by_cases z1:R1=0
     ·subst z1
      simp only [endE,if_pos]
      go_wp2_with fail
      refine wp_region_own_tail 6 (by kernel_rfl) (by kernel_rfl) ?_
      simp only [List.take_succ_cons,List.take_zero,List.drop_succ_cons,List.drop_zero]
      repeat (go_big_quiet_step (fail))
      refine wpQuiet_nil ?_
      rintro _ ⟨v3,rfl⟩
      go_wp2_with fail
      refine (q2'.out v3).mono ?_
      rintro r w' ⟨rfl,v4,rfl⟩
      by_cases z2:R2=0
      ·subst z2
       obtain rfl:Ending.returned (.int .i64 sw)=E:=by have:=hR2;rw [← hE'.out];by_cases hf:tw=sw <;> simp [goesE,hf,sidesT,endE] at this ⊢
       simp only [endE,if_pos]
       go_wp2
       go_ret
       exact⟨rfl,by rw [hz3.out,plus_plus];exact⟨_,rfl⟩⟩
      ·obtain rfl:gaveE R2=E:=(Classical.byCases (fun hf:tw=sw=>absurd (hR2.symm.trans (by simp [goesE,hf])) z2) (fun hf:¬ tw=sw=>by rw [← hE'.out,← hR2];simp [goesE,hf,sidesT,endE,show ¬ sw=tw from fun c=>hf c.symm]))
       rw [endE,if_neg z2]
       go_wp2
       exact⟨rfl,rfl,by rw [hz3.out,plus_plus];exact⟨_,rfl⟩⟩
     ·obtain rfl:gaveE R1=E:=absurd (hR1.symm.trans (by simp [goesE])) z1
      rw [endE,if_neg z1]
      go_wp2
      exact⟨rfl,rfl,by rw [hz3.out,plus_plus];exact⟨_,rfl⟩⟩
end Go.Proofs.YtobhijbncchpiaaGreat

/-
  WHAT IS PROVED HERE: a part of the proof (made narrower and merged by program; the parts: Vp Zf).
-/
import Derived.Test.YtobhijbncchpiaaGreatM17
import Derived.Test.YtobhijbncchpiaaGreatM6
namespace Go.Proofs.YtobhijbncchpiaaGreat
open Go.RowKit
theorem box4f (V:World) (c d f g:Array Value) (t u s r:TypeId):∃ W y,(((V.alloc (.cells c t)).alloc (.cells d u)).alloc (.cells f s)).alloc (.cells g r)=plus W y∧(∃ z,W=plus V z)∧(∀ o v,c[o]?=v→∀ y,(plus W y).cell? ⟨V.heap.size,o,none⟩=v)∧(∀ o v,d[o]?=v→∀ y,(plus W y).cell? ⟨V.heap.size+1,o,none⟩=v)∧(∀ o v,f[o]?=v→∀ y,(plus W y).cell? ⟨V.heap.size+1+1,o,none⟩=v)∧(∀ o v,g[o]?=v→∀ y,(plus W y).cell? ⟨V.heap.size+1+1+1,o,none⟩=v)∧(∀ y o,(plus W y).frozen? ⟨V.heap.size+1+1+1,o,none⟩=false):=by
 obtain⟨W,hW,hB,hs,ca,cb,cc,fa,fb,fc⟩:=box3 V c d f t u s
 obtain⟨X,hX,hB2,hs2,cg,fg⟩:=box1 W g r
 have hsz:W.heap.size=V.heap.size+1+1+1:=by omega
 rw [← hW,← hX]
 obtain⟨z,hz⟩:=plus_of_below hB
 obtain⟨z2,hz2⟩:=plus_of_below hB2
 refine⟨X,⟨#[],X.drawn⟩,(plus_self X).symm,⟨_,by rw [hz2,hz,plus_plus]⟩,?_,?_,?_,?_,?_⟩
 ·intro o v h y;rw [hz2,plus_plus];exact ca o v h _
 ·intro o v h y;rw [hz2,plus_plus];exact cb o v h _
 ·intro o v h y;rw [hz2,plus_plus];exact cc o v h _
 ·intro o v h y;rw [← hsz];exact cg o v h y
 ·intro y o;rw [← hsz];exact fg y o
set_option maxRecDepth 100000 in
set_option maxHeartbeats 16000000 in
theorem t_ofTwo (e x y:Ex) (s t:Ty) (w:World) (hin:e.In w) (hx:e.args[0]?=some x) (hy:e.args[1]?=some y) (cx:s.fr=true→x.chain=true) (cy:t.fr=true→y.chain=true)
  (hww:bitsE s=0→bitsE t=0→wrap64 (128 - t.w)=128 - t.w∧(s.w+t.w≤128→wrap64 (s.w+t.w)=s.w+t.w)) :
  KpE Tryz.prog w 51 #[e.val,s.v,t.v] (endE (pairT e.op x.free y.free s t).1 (pairT e.op x.free y.free s t).2.v):=by
 intro y0
 have kc:=(t_common e x y s t w hin hx hy cx cy).up y0
 clear hin hx hy cx cy
 obtain⟨V,hV⟩:∃ V,plus w y0=V:=⟨_,rfl⟩
 rw [hV] at kc ⊢
 clear hV
 have ks:=t_width s V
 have kt:=t_width t V
 obtain⟨n,hn⟩:∃ n,x.free=n:=⟨_,rfl⟩
 obtain⟨m,hm⟩:∃ m,y.free=m:=⟨_,rfl⟩
 rw [hn,hm] at kc ⊢
 obtain⟨op,⟨lw,lh,ll⟩,hd,nm,eh,el,ep,ec,eargs⟩:=e
 simp only [Ex.val,Ex.cells,Ex.op,Ex.lit,Ex.head,Ex.name,Ex.hi,Ex.lo,Ex.p,Ex.args,Ex.cap] at kc ⊢
 obtain⟨M,hM⟩:∃ M,eargs.length=M:=⟨_,rfl⟩
 rw [hM] at kc ⊢
 obtain⟨C,hC⟩:∃ C,sidesT n m s t=C:=⟨_,rfl⟩
 rw [hC] at kc
 obtain⟨PP,hP⟩:∃ PP,pairT op n m s t=PP:=⟨_,rfl⟩
 rw [hP]
 unfold pairT at hP
 rw [hC] at hP
 obtain⟨C1,C2⟩:=C
 obtain⟨sw,st,sf⟩:=s
 obtain⟨tw,tt,tf⟩:=t
 simp only [Ty.v] at kc ks kt ⊢
 have hP':=Lib.hid hP
 have kc':=Lib.hid kc
 have ks':=Lib.hid ks
 have kt':=Lib.hid kt
 have hww':=Lib.hid hww
 clear hM hn hm hC hP kc ks kt hww
 by_cases h11:op=11
 ·subst h11
  cases st with
  | true =>
   obtain rfl:PP=(9,ty0):=by rw [← hP'.out];simp [bitsE]
   simp only [endE,show ¬ ((9:Int)=0) by decide,if_false]
   rw [show (if bitsE ⟨sw,true,sf⟩=0 then Ending.returned (.int .i64 sw) else gaveE (bitsE ⟨sw,true,sf⟩))=gaveE 9 from rfl] at ks'
   go_enter Tryz.func51,Tryz.ntmps51
   go_wp2_with fail
   obtain⟨X,Y0,hX,⟨zX,hzX⟩,ca,cb,cc,cd,fd⟩:=box4f V _ _ _ _ 45 75 75 75
   rw [hX]
   have c0:=ca 0 _ rfl
   have c1:=ca 1 _ rfl
   have c2:=ca 2 _ rfl
   have c3:=ca 3 _ rfl
   have c4:=ca 4 _ rfl
   have c5:=ca 5 _ rfl
   have c6:=ca 6 _ rfl
   have c7:=ca 7 _ rfl
   have c8:=ca 8 _ rfl
   have s0:=cb 0 _ rfl
   have s1:=cb 1 _ rfl
   have s2:=cb 2 _ rfl
   have t0:=cc 0 _ rfl
   have t1:=cc 1 _ rfl
   have t2:=cc 2 _ rfl
   have hR:=Lib.hid (rb_of ⟨zX,hzX⟩ (show V.heap.size≤V.heap.size+1+1+1 by omega) cd fd)
   have kc2:=Lib.hid (kpE_at hzX kc'.out)
   have ks2:=Lib.hid (kpE_at hzX ks'.out)
   have kt2:=Lib.hid (kpE_at hzX kt'.out)
   have hz3:=Lib.hid hzX
   clear hX ca cb cc cd fd hzX kc' ks' kt'
   have ksd:=Lib.hid (ks2.out ⟨Y0.blocks,Y0.draws+1⟩)
   clear kc2 ks2 kt2 hR
   go_region_dies
   all_goals
    refine ksd.out.mono ?_
    rintro r w' ⟨rfl,x1,rfl⟩
    exact⟨rfl,rfl,by rw [hz3.out,plus_plus];exact⟨_,rfl⟩⟩
  | false =>
   cases sf with
   | true =>
    obtain rfl:PP=(10,ty0):=by rw [← hP'.out];simp [bitsE]
    simp only [endE,show ¬ ((10:Int)=0) by decide,if_false]
    rw [show (if bitsE ⟨sw,false,true⟩=0 then Ending.returned (.int .i64 sw) else gaveE (bitsE ⟨sw,false,true⟩))=gaveE 10 from rfl] at ks'
    go_enter Tryz.func51,Tryz.ntmps51
    go_wp2_with fail
    obtain⟨X,Y0,hX,⟨zX,hzX⟩,ca,cb,cc,cd,fd⟩:=box4f V _ _ _ _ 45 75 75 75
    rw [hX]
    have c0:=ca 0 _ rfl
    have c1:=ca 1 _ rfl
    have c2:=ca 2 _ rfl
    have c3:=ca 3 _ rfl
    have c4:=ca 4 _ rfl
    have c5:=ca 5 _ rfl
    have c6:=ca 6 _ rfl
    have c7:=ca 7 _ rfl
    have c8:=ca 8 _ rfl
    have s0:=cb 0 _ rfl
    have s1:=cb 1 _ rfl
    have s2:=cb 2 _ rfl
    have t0:=cc 0 _ rfl
    have t1:=cc 1 _ rfl
    have t2:=cc 2 _ rfl
    have hR:=Lib.hid (rb_of ⟨zX,hzX⟩ (show V.heap.size≤V.heap.size+1+1+1 by omega) cd fd)
    have kc2:=Lib.hid (kpE_at hzX kc'.out)
    have ks2:=Lib.hid (kpE_at hzX ks'.out)
    have kt2:=Lib.hid (kpE_at hzX kt'.out)
    have hz3:=Lib.hid hzX
    clear hX ca cb cc cd fd hzX kc' ks' kt'
    have ksd:=Lib.hid (ks2.out ⟨Y0.blocks,Y0.draws+1⟩)
    clear kc2 ks2 kt2 hR
    go_region_dies
    all_goals
     refine ksd.out.mono ?_
     rintro r w' ⟨rfl,x1,rfl⟩
     exact⟨rfl,rfl,by rw [hz3.out,plus_plus];exact⟨_,rfl⟩⟩
   | false =>
    cases tt with
    | true =>
     obtain rfl:PP=(9,ty0):=by rw [← hP'.out];simp [bitsE]
     simp only [endE,show ¬ ((9:Int)=0) by decide,if_false]
     rw [show (if bitsE ⟨sw,false,false⟩=0 then Ending.returned (.int .i64 sw) else gaveE (bitsE ⟨sw,false,false⟩))=.returned (.int .i64 sw) from rfl] at ks'
     rw [show (if bitsE ⟨tw,true,tf⟩=0 then Ending.returned (.int .i64 tw) else gaveE (bitsE ⟨tw,true,tf⟩))=gaveE 9 from rfl] at kt'
     go_enter Tryz.func51,Tryz.ntmps51
     go_wp2_with fail
     obtain⟨X,Y0,hX,⟨zX,hzX⟩,ca,cb,cc,cd,fd⟩:=box4f V _ _ _ _ 45 75 75 75
     rw [hX]
     have c0:=ca 0 _ rfl
     have c1:=ca 1 _ rfl
     have c2:=ca 2 _ rfl
     have c3:=ca 3 _ rfl
     have c4:=ca 4 _ rfl
     have c5:=ca 5 _ rfl
     have c6:=ca 6 _ rfl
     have c7:=ca 7 _ rfl
     have c8:=ca 8 _ rfl
     have s0:=cb 0 _ rfl
     have s1:=cb 1 _ rfl
     have s2:=cb 2 _ rfl
     have t0:=cc 0 _ rfl
     have t1:=cc 1 _ rfl
     have t2:=cc 2 _ rfl
     have hR:=Lib.hid (rb_of ⟨zX,hzX⟩ (show V.heap.size≤V.heap.size+1+1+1 by omega) cd fd)
     have kc2:=Lib.hid (kpE_at hzX kc'.out)
     have ks2:=Lib.hid (kpE_at hzX ks'.out)
     have kt2:=Lib.hid (kpE_at hzX kt'.out)
     have hz3:=Lib.hid hzX
     clear hX ca cb cc cd fd hzX kc' ks' kt'
     refine wp_region_own_tail 3 (by kernel_rfl) (by kernel_rfl) ?_
     simp only [List.take_succ_cons,List.take_zero,List.drop_succ_cons,List.drop_zero]
     repeat (go_big_quiet_step (first|(with_reducible exact ks2.out _)))
     refine wpQuiet_nil ?_
     rintro _ ⟨v1,rfl⟩
     go_wp2_with fail
     refine (kt2.out v1).mono ?_
     rintro r w' ⟨rfl,v2,rfl⟩
     clear ks2 kt2 kc2
     go_wp2
     exact⟨rfl,rfl,by rw [hz3.out,plus_plus];exact⟨_,rfl⟩⟩
    | false =>
     cases tf with
     | true =>
      obtain rfl:PP=(10,ty0):=by rw [← hP'.out];simp [bitsE]
      simp only [endE,show ¬ ((10:Int)=0) by decide,if_false]
      rw [show (if bitsE ⟨sw,false,false⟩=0 then Ending.returned (.int .i64 sw) else gaveE (bitsE ⟨sw,false,false⟩))=.returned (.int .i64 sw) from rfl] at ks'
      rw [show (if bitsE ⟨tw,false,true⟩=0 then Ending.returned (.int .i64 tw) else gaveE (bitsE ⟨tw,false,true⟩))=gaveE 10 from rfl] at kt'
      go_enter Tryz.func51,Tryz.ntmps51
      go_wp2_with fail
      obtain⟨X,Y0,hX,⟨zX,hzX⟩,ca,cb,cc,cd,fd⟩:=box4f V _ _ _ _ 45 75 75 75
      rw [hX]
      have c0:=ca 0 _ rfl
      have c1:=ca 1 _ rfl
      have c2:=ca 2 _ rfl
      have c3:=ca 3 _ rfl
      have c4:=ca 4 _ rfl
      have c5:=ca 5 _ rfl
      have c6:=ca 6 _ rfl
      have c7:=ca 7 _ rfl
      have c8:=ca 8 _ rfl
      have s0:=cb 0 _ rfl
      have s1:=cb 1 _ rfl
      have s2:=cb 2 _ rfl
      have t0:=cc 0 _ rfl
      have t1:=cc 1 _ rfl
      have t2:=cc 2 _ rfl
      have hR:=Lib.hid (rb_of ⟨zX,hzX⟩ (show V.heap.size≤V.heap.size+1+1+1 by omega) cd fd)
      have kc2:=Lib.hid (kpE_at hzX kc'.out)
      have ks2:=Lib.hid (kpE_at hzX ks'.out)
      have kt2:=Lib.hid (kpE_at hzX kt'.out)
      have hz3:=Lib.hid hzX
      clear hX ca cb cc cd fd hzX kc' ks' kt'
      refine wp_region_own_tail 3 (by kernel_rfl) (by kernel_rfl) ?_
      simp only [List.take_succ_cons,List.take_zero,List.drop_succ_cons,List.drop_zero]
      repeat (go_big_quiet_step (first|(with_reducible exact ks2.out _)))
      refine wpQuiet_nil ?_
      rintro _ ⟨v1,rfl⟩
      go_wp2_with fail
      refine (kt2.out v1).mono ?_
      rintro r w' ⟨rfl,v2,rfl⟩
      clear ks2 kt2 kc2
      go_wp2
      exact⟨rfl,rfl,by rw [hz3.out,plus_plus];exact⟨_,rfl⟩⟩
     | false =>
      have hw2:=hww'.out rfl rfl
      simp only at hw2
      rw [show (if bitsE ⟨sw,false,false⟩=0 then Ending.returned (.int .i64 sw) else gaveE (bitsE ⟨sw,false,false⟩))=.returned (.int .i64 sw) from rfl] at ks'
      rw [show (if bitsE ⟨tw,false,false⟩=0 then Ending.returned (.int .i64 tw) else gaveE (bitsE ⟨tw,false,false⟩))=.returned (.int .i64 tw) from rfl] at kt'
      by_cases q:128 < sw+tw
      ·obtain rfl:PP=(5,ty0):=by rw [← hP'.out];simp [bitsE,q]
       simp only [endE,show ¬ ((5:Int)=0) by decide,if_false]
       have q2:¬ sw≤128 - tw:=by omega
       have hw3:=Lib.hid hw2.1
       clear hw2
       go_enter Tryz.func51,Tryz.ntmps51
       go_wp2_with fail
       obtain⟨X,Y0,hX,⟨zX,hzX⟩,ca,cb,cc,cd,fd⟩:=box4f V _ _ _ _ 45 75 75 75
       rw [hX]
       have c0:=ca 0 _ rfl
       have c1:=ca 1 _ rfl
       have c2:=ca 2 _ rfl
       have c3:=ca 3 _ rfl
       have c4:=ca 4 _ rfl
       have c5:=ca 5 _ rfl
       have c6:=ca 6 _ rfl
       have c7:=ca 7 _ rfl
       have c8:=ca 8 _ rfl
       have s0:=cb 0 _ rfl
       have s1:=cb 1 _ rfl
       have s2:=cb 2 _ rfl
       have t0:=cc 0 _ rfl
       have t1:=cc 1 _ rfl
       have t2:=cc 2 _ rfl
       have hR:=Lib.hid (rb_of ⟨zX,hzX⟩ (show V.heap.size≤V.heap.size+1+1+1 by omega) cd fd)
       have kc2:=Lib.hid (kpE_at hzX kc'.out)
       have ks2:=Lib.hid (kpE_at hzX ks'.out)
       have kt2:=Lib.hid (kpE_at hzX kt'.out)
       have hz3:=Lib.hid hzX
       clear hX ca cb cc cd fd hzX kc' ks' kt'
       refine wp_region_own_tail 3 (by kernel_rfl) (by kernel_rfl) ?_
       simp only [List.take_succ_cons,List.take_zero,List.drop_succ_cons,List.drop_zero]
       repeat (go_big_quiet_step (first|(with_reducible exact ks2.out _)))
       refine wpQuiet_nil ?_
       rintro _ ⟨v1,rfl⟩
       go_wp2_with fail
       refine (kt2.out v1).mono ?_
       rintro r w' ⟨rfl,v2,rfl⟩
       clear ks2 kt2 kc2
       go_wp2_with fail
       rw [hw3.out,show decide (sw≤128 - tw)=false by simpa using q2]
       refine (need_no X 5 v2).mono ?_
       rintro r w' ⟨rfl,x9,rfl⟩
       go_wp2
       exact⟨rfl,rfl,by rw [hz3.out,plus_plus,plus_plus];exact⟨_,rfl⟩⟩
      ·obtain rfl:PP=(0,⟨sw+tw,false,false⟩):=by rw [← hP'.out];simp [bitsE,q,tyW]
       simp only [endE,if_pos]
       have q2:sw≤128 - tw:=by omega
       have hw3:=Lib.hid hw2.1
       have hw4:=Lib.hid (hw2.2 (by omega))
       clear hw2
       go_enter Tryz.func51,Tryz.ntmps51
       go_wp2_with fail
       obtain⟨X,Y0,hX,⟨zX,hzX⟩,ca,cb,cc,cd,fd⟩:=box4f V _ _ _ _ 45 75 75 75
       rw [hX]
       have c0:=ca 0 _ rfl
       have c1:=ca 1 _ rfl
       have c2:=ca 2 _ rfl
       have c3:=ca 3 _ rfl
       have c4:=ca 4 _ rfl
       have c5:=ca 5 _ rfl
       have c6:=ca 6 _ rfl
       have c7:=ca 7 _ rfl
       have c8:=ca 8 _ rfl
       have s0:=cb 0 _ rfl
       have s1:=cb 1 _ rfl
       have s2:=cb 2 _ rfl
       have t0:=cc 0 _ rfl
       have t1:=cc 1 _ rfl
       have t2:=cc 2 _ rfl
       have hR:=Lib.hid (rb_of ⟨zX,hzX⟩ (show V.heap.size≤V.heap.size+1+1+1 by omega) cd fd)
       have kc2:=Lib.hid (kpE_at hzX kc'.out)
       have ks2:=Lib.hid (kpE_at hzX ks'.out)
       have kt2:=Lib.hid (kpE_at hzX kt'.out)
       have hz3:=Lib.hid hzX
       clear hX ca cb cc cd fd hzX kc' ks' kt'
       refine wp_region_own_tail 3 (by kernel_rfl) (by kernel_rfl) ?_
       simp only [List.take_succ_cons,List.take_zero,List.drop_succ_cons,List.drop_zero]
       repeat (go_big_quiet_step (first|(with_reducible exact ks2.out _)))
       refine wpQuiet_nil ?_
       rintro _ ⟨v1,rfl⟩
       go_wp2_with fail
       refine (kt2.out v1).mono ?_
       rintro r w' ⟨rfl,v2,rfl⟩
       clear ks2 kt2 kc2
       go_wp2_with fail
       rw [hw3.out,show decide (sw≤128 - tw)=true by simpa using q2]
       refine (need_yes X 5 v2).mono ?_
       rintro r w' ⟨rfl,x5,rfl⟩
       rw [plus_plus]
       obtain⟨Y5,hY5⟩:∃ Y:Ext,(⟨Ext.blocks v2++Ext.blocks x5,Ext.draws x5⟩:Ext)=Y:=⟨_,rfl⟩
       rw [hY5]
       clear hY5
       go_wp2_with fail
       rw [hw4.out]
       refine (t_bits (sw+tw) X Y5).mono ?_
       rintro r w' ⟨rfl,x6,rfl⟩
       rw [plus_plus]
       obtain⟨Y6,hY6⟩:∃ Y:Ext,(⟨Ext.blocks Y5++Ext.blocks x6,Ext.draws x6⟩:Ext)=Y:=⟨_,rfl⟩
       rw [hY6]
       clear hY6
       simp only [Ty.v,tyW]
       have hRU:=hR.out Y6
       have r0:=hRU.r0
       have r1:=hRU.r1
       have r2:=hRU.r2
       have rf:=hRU.rf
       have hRU':=Lib.hid hRU
       clear hRU hR
       go_wp2
       obtain⟨Z,hZ,g0,g1,g2,hV⟩:=hRU'.out.set ⟨(sw+tw),false,false⟩
       simp only at hZ
       rw [hZ]
       clear hZ
       exact bodyPost_ret (v:=.agg #[.int .i64 (sw+tw),.bool false,.bool false]) (by simp [results,Tryz.results51,go_sem,g0,g1,g2]) rfl ⟨rfl,hV⟩
 by_cases h2526:op=25∨op=26
 ·rcases h2526 with rfl | rfl
  all_goals
   cases st with
   | true =>
    cases tt with
    | true =>
     obtain rfl:PP=(0,⟨sw,true,sf⟩):=by rw [← hP'.out];simp
     simp only [endE,if_pos]
     clear hP' hww'
     go_enter Tryz.func51,Tryz.ntmps51
     go_wp2_with fail
     obtain⟨X,Y0,hX,⟨zX,hzX⟩,ca,cb,cc,cd,fd⟩:=box4f V _ _ _ _ 45 75 75 75
     rw [hX]
     have c0:=ca 0 _ rfl
     have c1:=ca 1 _ rfl
     have c2:=ca 2 _ rfl
     have c3:=ca 3 _ rfl
     have c4:=ca 4 _ rfl
     have c5:=ca 5 _ rfl
     have c6:=ca 6 _ rfl
     have c7:=ca 7 _ rfl
     have c8:=ca 8 _ rfl
     have s0:=cb 0 _ rfl
     have s1:=cb 1 _ rfl
     have s2:=cb 2 _ rfl
     have t0:=cc 0 _ rfl
     have t1:=cc 1 _ rfl
     have t2:=cc 2 _ rfl
     have hR:=Lib.hid (rb_of ⟨zX,hzX⟩ (show V.heap.size≤V.heap.size+1+1+1 by omega) cd fd)
     have kc2:=Lib.hid (kpE_at hzX kc'.out)
     have ks2:=Lib.hid (kpE_at hzX ks'.out)
     have kt2:=Lib.hid (kpE_at hzX kt'.out)
     have hz3:=Lib.hid hzX
     clear hX ca cb cc cd fd hzX kc' ks' kt'
     clear kc2 ks2 kt2
     refine (need_yes X 9 Y0).mono ?_
     rintro r w' ⟨rfl,x5,rfl⟩
     rw [plus_plus]
     obtain⟨Y5,hY5⟩:∃ Y:Ext,(⟨Ext.blocks Y0++Ext.blocks x5,Ext.draws x5⟩:Ext)=Y:=⟨_,rfl⟩
     rw [hY5]
     clear hY5
     have hRU:=hR.out Y5
     have r0:=hRU.r0
     have r1:=hRU.r1
     have r2:=hRU.r2
     have rf:=hRU.rf
     have hRU':=Lib.hid hRU
     clear hRU hR
     go_wp2
     obtain⟨Z,hZ,g0,g1,g2,hV⟩:=hRU'.out.set ⟨sw,true,sf⟩
     simp only at hZ
     rw [hZ]
     clear hZ
     exact bodyPost_ret (v:=.agg #[.int .i64 sw,.bool true,.bool sf]) (by simp [results,Tryz.results51,go_sem,g0,g1,g2]) rfl ⟨rfl,hV⟩
    | false =>
     obtain rfl:PP=(9,ty0):=by rw [← hP'.out];simp
     simp only [endE,show ¬ ((9:Int)=0) by decide,if_false]
     clear hP' hww'
     go_enter Tryz.func51,Tryz.ntmps51
     go_wp2_with fail
     obtain⟨X,Y0,hX,⟨zX,hzX⟩,ca,cb,cc,cd,fd⟩:=box4f V _ _ _ _ 45 75 75 75
     rw [hX]
     have c0:=ca 0 _ rfl
     have c1:=ca 1 _ rfl
     have c2:=ca 2 _ rfl
     have c3:=ca 3 _ rfl
     have c4:=ca 4 _ rfl
     have c5:=ca 5 _ rfl
     have c6:=ca 6 _ rfl
     have c7:=ca 7 _ rfl
     have c8:=ca 8 _ rfl
     have s0:=cb 0 _ rfl
     have s1:=cb 1 _ rfl
     have s2:=cb 2 _ rfl
     have t0:=cc 0 _ rfl
     have t1:=cc 1 _ rfl
     have t2:=cc 2 _ rfl
     have hR:=Lib.hid (rb_of ⟨zX,hzX⟩ (show V.heap.size≤V.heap.size+1+1+1 by omega) cd fd)
     have kc2:=Lib.hid (kpE_at hzX kc'.out)
     have ks2:=Lib.hid (kpE_at hzX ks'.out)
     have kt2:=Lib.hid (kpE_at hzX kt'.out)
     have hz3:=Lib.hid hzX
     clear hX ca cb cc cd fd hzX kc' ks' kt'
     clear kc2 ks2 kt2 hR
     refine (need_no X 9 Y0).mono ?_
     rintro r w' ⟨rfl,x5,rfl⟩
     go_wp2
     exact⟨rfl,rfl,by rw [hz3.out,plus_plus,plus_plus];exact⟨_,rfl⟩⟩
   | false =>
    obtain rfl:PP=(9,ty0):=by rw [← hP'.out];simp
    simp only [endE,show ¬ ((9:Int)=0) by decide,if_false]
    clear hP' hww'
    go_enter Tryz.func51,Tryz.ntmps51
    go_wp2_with fail
    obtain⟨X,Y0,hX,⟨zX,hzX⟩,ca,cb,cc,cd,fd⟩:=box4f V _ _ _ _ 45 75 75 75
    rw [hX]
    have c0:=ca 0 _ rfl
    have c1:=ca 1 _ rfl
    have c2:=ca 2 _ rfl
    have c3:=ca 3 _ rfl
    have c4:=ca 4 _ rfl
    have c5:=ca 5 _ rfl
    have c6:=ca 6 _ rfl
    have c7:=ca 7 _ rfl
    have c8:=ca 8 _ rfl
    have s0:=cb 0 _ rfl
    have s1:=cb 1 _ rfl
    have s2:=cb 2 _ rfl
    have t0:=cc 0 _ rfl
    have t1:=cc 1 _ rfl
    have t2:=cc 2 _ rfl
    have hR:=Lib.hid (rb_of ⟨zX,hzX⟩ (show V.heap.size≤V.heap.size+1+1+1 by omega) cd fd)
    have kc2:=Lib.hid (kpE_at hzX kc'.out)
    have ks2:=Lib.hid (kpE_at hzX ks'.out)
    have kt2:=Lib.hid (kpE_at hzX kt'.out)
    have hz3:=Lib.hid hzX
    clear hX ca cb cc cd fd hzX kc' ks' kt'
    clear kc2 ks2 kt2 hR
    refine (need_no X 9 Y0).mono ?_
    rintro r w' ⟨rfl,x5,rfl⟩
    go_wp2
    exact⟨rfl,rfl,by rw [hz3.out,plus_plus,plus_plus];exact⟨_,rfl⟩⟩
 by_cases hcmp:19≤op∧op≤24
 ·obtain h6:op=19∨op=20∨op=21∨op=22∨op=23∨op=24:=by omega
  clear hcmp h11 h2526
  rcases h6 with rfl | rfl | rfl | rfl | rfl | rfl
  all_goals
   by_cases z:C1=0
   ·subst z
    obtain rfl:PP=(0,⟨0,true,false⟩):=by rw [← hP'.out];simp
    simp only [endE,if_pos] at kc' ⊢
    clear hP' hww'
    go_enter Tryz.func51,Tryz.ntmps51
    go_wp2_with fail
    obtain⟨X,Y0,hX,⟨zX,hzX⟩,ca,cb,cc,cd,fd⟩:=box4f V _ _ _ _ 45 75 75 75
    rw [hX]
    have c0:=ca 0 _ rfl
    have c1:=ca 1 _ rfl
    have c2:=ca 2 _ rfl
    have c3:=ca 3 _ rfl
    have c4:=ca 4 _ rfl
    have c5:=ca 5 _ rfl
    have c6:=ca 6 _ rfl
    have c7:=ca 7 _ rfl
    have c8:=ca 8 _ rfl
    have s0:=cb 0 _ rfl
    have s1:=cb 1 _ rfl
    have s2:=cb 2 _ rfl
    have t0:=cc 0 _ rfl
    have t1:=cc 1 _ rfl
    have t2:=cc 2 _ rfl
    have hR:=Lib.hid (rb_of ⟨zX,hzX⟩ (show V.heap.size≤V.heap.size+1+1+1 by omega) cd fd)
    have kc2:=Lib.hid (kpE_at hzX kc'.out)
    have ks2:=Lib.hid (kpE_at hzX ks'.out)
    have kt2:=Lib.hid (kpE_at hzX kt'.out)
    have hz3:=Lib.hid hzX
    clear hX ca cb cc cd fd hzX kc' ks' kt'
    refine (kc2.out Y0).mono ?_
    rintro r w' ⟨rfl,x5,rfl⟩
    clear kc2 ks2 kt2
    go_wp2_with fail
    refine (t_truth X x5).mono ?_
    rintro r w' ⟨rfl,x6,rfl⟩
    rw [plus_plus]
    obtain⟨Y6,hY6⟩:∃ Y:Ext,(⟨Ext.blocks x5++Ext.blocks x6,Ext.draws x6⟩:Ext)=Y:=⟨_,rfl⟩
    rw [hY6]
    clear hY6
    simp only [Ty.v]
    have hRU:=hR.out Y6
    have r0:=hRU.r0
    have r1:=hRU.r1
    have r2:=hRU.r2
    have rf:=hRU.rf
    have hRU':=Lib.hid hRU
    clear hRU hR
    go_wp2
    obtain⟨Z,hZ,g0,g1,g2,hV⟩:=hRU'.out.set ⟨0,true,false⟩
    simp only at hZ
    rw [hZ]
    clear hZ
    exact bodyPost_ret (v:=.agg #[.int .i64 0,.bool true,.bool false]) (by simp [results,Tryz.results51,go_sem,g0,g1,g2]) rfl ⟨rfl,hV⟩
   ·obtain rfl:PP=(C1,ty0):=by rw [← hP'.out];simp [z]
    simp only [endE,if_neg z] at kc' ⊢
    clear hP' hww'
    go_enter Tryz.func51,Tryz.ntmps51
    go_wp2_with fail
    obtain⟨X,Y0,hX,⟨zX,hzX⟩,ca,cb,cc,cd,fd⟩:=box4f V _ _ _ _ 45 75 75 75
    rw [hX]
    have c0:=ca 0 _ rfl
    have c1:=ca 1 _ rfl
    have c2:=ca 2 _ rfl
    have c3:=ca 3 _ rfl
    have c4:=ca 4 _ rfl
    have c5:=ca 5 _ rfl
    have c6:=ca 6 _ rfl
    have c7:=ca 7 _ rfl
    have c8:=ca 8 _ rfl
    have s0:=cb 0 _ rfl
    have s1:=cb 1 _ rfl
    have s2:=cb 2 _ rfl
    have t0:=cc 0 _ rfl
    have t1:=cc 1 _ rfl
    have t2:=cc 2 _ rfl
    have hR:=Lib.hid (rb_of ⟨zX,hzX⟩ (show V.heap.size≤V.heap.size+1+1+1 by omega) cd fd)
    have kc2:=Lib.hid (kpE_at hzX kc'.out)
    have ks2:=Lib.hid (kpE_at hzX ks'.out)
    have kt2:=Lib.hid (kpE_at hzX kt'.out)
    have hz3:=Lib.hid hzX
    clear hX ca cb cc cd fd hzX kc' ks' kt'
    refine (kc2.out Y0).mono ?_
    rintro r w' ⟨rfl,x5,rfl⟩
    clear kc2 ks2 kt2 hR
    go_wp2
    exact⟨rfl,rfl,by rw [hz3.out,plus_plus];exact⟨_,rfl⟩⟩
 have o11:(op == 11)=false:=by simpa using h11
 have o19:(op == 19)=false:=beq_eq_false_iff_ne.2 (show op≠19 by omega)
 have o20:(op == 20)=false:=beq_eq_false_iff_ne.2 (show op≠20 by omega)
 have o21:(op == 21)=false:=beq_eq_false_iff_ne.2 (show op≠21 by omega)
 have o22:(op == 22)=false:=beq_eq_false_iff_ne.2 (show op≠22 by omega)
 have o23:(op == 23)=false:=beq_eq_false_iff_ne.2 (show op≠23 by omega)
 have o24:(op == 24)=false:=beq_eq_false_iff_ne.2 (show op≠24 by omega)
 have o25:(op == 25)=false:=beq_eq_false_iff_ne.2 (show op≠25 by omega)
 have o26:(op == 26)=false:=beq_eq_false_iff_ne.2 (show op≠26 by omega)
 by_cases z:C1=0
 ·subst z
  obtain rfl:PP=(0,⟨C2,false,false⟩):=by rw [← hP'.out];simp [h11,h2526,hcmp,tyW]
  simp only [endE,if_pos] at kc' ⊢
  clear hP' hww' h11 h2526 hcmp
  go_enter Tryz.func51,Tryz.ntmps51
  go_wp2_with fail
  obtain⟨X,Y0,hX,⟨zX,hzX⟩,ca,cb,cc,cd,fd⟩:=box4f V _ _ _ _ 45 75 75 75
  rw [hX]
  have c0:=ca 0 _ rfl
  have c1:=ca 1 _ rfl
  have c2:=ca 2 _ rfl
  have c3:=ca 3 _ rfl
  have c4:=ca 4 _ rfl
  have c5:=ca 5 _ rfl
  have c6:=ca 6 _ rfl
  have c7:=ca 7 _ rfl
  have c8:=ca 8 _ rfl
  have s0:=cb 0 _ rfl
  have s1:=cb 1 _ rfl
  have s2:=cb 2 _ rfl
  have t0:=cc 0 _ rfl
  have t1:=cc 1 _ rfl
  have t2:=cc 2 _ rfl
  have hR:=Lib.hid (rb_of ⟨zX,hzX⟩ (show V.heap.size≤V.heap.size+1+1+1 by omega) cd fd)
  have kc2:=Lib.hid (kpE_at hzX kc'.out)
  have ks2:=Lib.hid (kpE_at hzX ks'.out)
  have kt2:=Lib.hid (kpE_at hzX kt'.out)
  have hz3:=Lib.hid hzX
  clear hX ca cb cc cd fd hzX kc' ks' kt'
  refine (kc2.out Y0).mono ?_
  rintro r w' ⟨rfl,x5,rfl⟩
  clear kc2 ks2 kt2
  go_wp2_with fail
  refine (t_bits C2 X x5).mono ?_
  rintro r w' ⟨rfl,x6,rfl⟩
  rw [plus_plus]
  obtain⟨Y6,hY6⟩:∃ Y:Ext,(⟨Ext.blocks x5++Ext.blocks x6,Ext.draws x6⟩:Ext)=Y:=⟨_,rfl⟩
  rw [hY6]
  clear hY6
  simp only [Ty.v,tyW]
  have hRU:=hR.out Y6
  have r0:=hRU.r0
  have r1:=hRU.r1
  have r2:=hRU.r2
  have rf:=hRU.rf
  have hRU':=Lib.hid hRU
  clear hRU hR
  go_wp2
  obtain⟨Z,hZ,g0,g1,g2,hV⟩:=hRU'.out.set ⟨C2,false,false⟩
  simp only at hZ
  rw [hZ]
  clear hZ
  exact bodyPost_ret (v:=.agg #[.int .i64 C2,.bool false,.bool false]) (by simp [results,Tryz.results51,go_sem,g0,g1,g2]) rfl ⟨rfl,hV⟩
 ·obtain rfl:PP=(C1,ty0):=by rw [← hP'.out];simp [h11,h2526,z]
  simp only [endE,if_neg z] at kc' ⊢
  clear hP' hww' h11 h2526 hcmp
  go_enter Tryz.func51,Tryz.ntmps51
  go_wp2_with fail
  obtain⟨X,Y0,hX,⟨zX,hzX⟩,ca,cb,cc,cd,fd⟩:=box4f V _ _ _ _ 45 75 75 75
  rw [hX]
  have c0:=ca 0 _ rfl
  have c1:=ca 1 _ rfl
  have c2:=ca 2 _ rfl
  have c3:=ca 3 _ rfl
  have c4:=ca 4 _ rfl
  have c5:=ca 5 _ rfl
  have c6:=ca 6 _ rfl
  have c7:=ca 7 _ rfl
  have c8:=ca 8 _ rfl
  have s0:=cb 0 _ rfl
  have s1:=cb 1 _ rfl
  have s2:=cb 2 _ rfl
  have t0:=cc 0 _ rfl
  have t1:=cc 1 _ rfl
  have t2:=cc 2 _ rfl
  have hR:=Lib.hid (rb_of ⟨zX,hzX⟩ (show V.heap.size≤V.heap.size+1+1+1 by omega) cd fd)
  have kc2:=Lib.hid (kpE_at hzX kc'.out)
  have ks2:=Lib.hid (kpE_at hzX ks'.out)
  have kt2:=Lib.hid (kpE_at hzX kt'.out)
  have hz3:=Lib.hid hzX
  clear hX ca cb cc cd fd hzX kc' ks' kt'
  refine (kc2.out Y0).mono ?_
  rintro r w' ⟨rfl,x5,rfl⟩
  clear kc2 ks2 kt2 hR
  go_wp2
  exact⟨rfl,rfl,by rw [hz3.out,plus_plus];exact⟨_,rfl⟩⟩
theorem box4r (V:World) (c d f g:Array Value) (t u s r:TypeId):∃ W y,(((V.alloc (.cells c t)).alloc (.cells d u)).alloc (.cells f s)).alloc (.cells g r)=plus W y∧(∃ z,W=plus V z) ∧
  (∀ o v,c[o]?=v→∀ y,(plus W y).cell? ⟨V.heap.size,o,none⟩=v) ∧
  (∀ o v,d[o]?=v→∀ y,(plus W y).cell? ⟨V.heap.size+1,o,none⟩=v) ∧
  (∀ o v,f[o]?=v→∀ y,(plus W y).cell? ⟨V.heap.size+1+1,o,none⟩=v) ∧
  (∀ o v,g[o]?=v→∀ y,(plus W y).cell? ⟨V.heap.size+1+1+1,o,none⟩=v):=by
 have h1:(V.alloc (.cells c t)).heap.size=V.heap.size+1:=by simp
 have h2:((V.alloc (.cells c t)).alloc (.cells d u)).heap.size=V.heap.size+1+1:=by simp
 have h3:(((V.alloc (.cells c t)).alloc (.cells d u)).alloc (.cells f s)).heap.size=V.heap.size+1+1+1:=by simp
 have hs:((((V.alloc (.cells c t)).alloc (.cells d u)).alloc (.cells f s)).alloc (.cells g r)).heap.size=V.heap.size+1+1+1+1:=by simp
 have hB:Below V.heap.size V ((((V.alloc (.cells c t)).alloc (.cells d u)).alloc (.cells f s)).alloc (.cells g r)):=(((((Below.refl _ _).alloc (Nat.le_refl _) _).alloc (by omega) _).alloc (by omega) _).alloc (by omega) _)
 exact⟨_,⟨#[],_⟩,(plus_self _).symm,plus_of_below hB,
  fun o v e=>plus_cell (by omega) ((cell_old _ _ _ o (by omega)).trans ((cell_old _ _ _ o (by omega)).trans ((cell_old _ _ _ o (by omega)).trans ((cell_new V c t _ o rfl).trans e)))),
  fun o v e=>plus_cell (by omega) ((cell_old _ _ _ o (by omega)).trans ((cell_old _ _ _ o (by omega)).trans ((cell_new _ d u _ o h1.symm).trans e))),
  fun o v e=>plus_cell (by omega) ((cell_old _ _ _ o (by omega)).trans ((cell_new _ f s _ o h2.symm).trans e)),
  fun o v e=>plus_cell (by omega) ((cell_new _ g r _ o h3.symm).trans e)⟩
/-- The literal's captured variables: the program, the action, itself. -/
structure There (p:Pr) (act:Int) (b1 b2 b3:Nat) (w:World):Prop where
 pc:∀ j v,[.slice p.headers.p p.headers.l.length p.headers.cap,.slice p.metas.p p.metas.l.length p.metas.cap,.slice p.states.p p.states.l.length p.states.cap,.slice p.actions.p p.actions.l.length p.actions.cap,.slice p.tables.p p.tables.l.length p.tables.cap,.slice p.control.p p.control.l.length p.control.cap,.slice p.emit.p p.emit.l.length p.emit.cap][j]?=some v→w.cell? ⟨b1,j,none⟩=some v
 ac:w.cell? ⟨b2,0,none⟩=some (.int .i64 act)
 tc:w.cell? ⟨b3,0,none⟩=some (.func (.func 158) #[] #[.pointer (some ⟨b1,0,none⟩),.pointer (some ⟨b2,0,none⟩),.pointer (some ⟨b3,0,none⟩)])
theorem There.plus {p:Pr} {act:Int} {b1 b2 b3:Nat} {w:World} (h:There p act b1 b2 b3 w) (x:Ext):There p act b1 b2 b3 (plus w x) :=
 ⟨fun j v hj=>cell_keep (h.pc j v hj) x,cell_keep h.ac x,cell_keep h.tc x⟩
set_option maxRecDepth 100000 in
set_option maxHeartbeats 8000000 in
theorem there_in (p:Pr) (act:Int) (b1 b2 b3:Nat) (hz:p.sz≤1048576) (e:Ex):∀ w,p.In w→There p act b1 b2 b3 w→e.In w→e.wt≤1048576→Kp Tryz.prog w 158 #[.agg #[.int .u8 e.op,.int .i64 e.lit.w,.int .u64 e.lit.h,.int .u64 e.lit.l,.string e.head,.string e.name,.int .i64 e.hi,.int .i64 e.lo,.slice e.p e.args.length e.cap],.pointer (some ⟨b1,0,none⟩),.pointer (some ⟨b2,0,none⟩),.pointer (some ⟨b3,0,none⟩)] (.bool (e.there (isB p act))):=by
 induction e using Ex.ind with
 | _ e ih =>
 intro w hp hT he hw y0
 have hp:=hp.plus y0
 have hT:=hT.plus y0
 have he:=he.plus y0
 obtain⟨V,hV⟩:∃ V,plus w y0=V:=⟨_,rfl⟩
 rw [hV] at hp hT he ⊢
 clear hV
 have row:RowAt V 9 Ex.cells e.p e.args:=by cases he;assumption
 have kids:∀ x ∈ e.args,x.In V:=by cases he;assumption
 have hcap:e.args.length≤e.cap∧e.cap≤maxLen:=by cases he;exact⟨by assumption,by assumption⟩
 have hwt:=Ex.wt_eq e
 have kwt:∀ x ∈ e.args,x.wt≤1048576:=fun x hx=>by
  have:=le_sum_of Ex.wt e.args x hx
  omega
 have hlen:e.args.length≤1048576:=by
  have:=length_le_sum Ex.wt Ex.wt_pos e.args
  omega
 have k1:=q_isThere p V hp hz act e
 have kA:=Lib.hid (fun (U:World) (z:Ext) (hU:U=plus V z)=>(show Kp Tryz.prog U 160 #[.slice e.p e.args.length e.cap,.func (.func 161) #[] #[.pointer (some ⟨b3,0,none⟩)]] (.int .i64 (firstI (fun x=>!x.there (isB p act)) e.args 0)) from by
  subst hU
  exact first_Expr Ex.cells shp_ex (fun x=>!x.there (isB p act)) 161 #[] #[.pointer (some ⟨b3,0,none⟩)] (Ex.In (plus V z)) (plus V z) ⟨e.p,e.cap,e.args⟩ ⟨hcap.1,hcap.2,row.plus z,fun x hx=>(kids x hx).plus z⟩ hlen (enters_of Tryz.func161 (by kernel_rfl) rfl)
   (fun x hx=>names11 b3 _ 158 _ rfl (enters_of Tryz.func158 (by kernel_rfl) rfl) x _ (plus V z) (hT.plus z).tc (ih x hx (plus V z) (hp.plus z) (hT.plus z) ((kids x hx).plus z) (kwt x hx)))))
 have hR:(isB p act e && e.args.all (Ex.there (isB p act)))=e.there (isB p act):=(Ex.there_eq (isB p act) e).symm
 rw [← firstI_none (Ex.there (isB p act)) e.args 0] at hR
 obtain⟨R,hRR⟩:∃ R,e.there (isB p act)=R:=⟨_,rfl⟩
 rw [hRR] at hR ⊢
 generalize isB p act e=b at k1 hR
 have hI:∃ I,firstI (fun x=>!x.there (isB p act)) e.args 0=I:=⟨_,rfl⟩
 obtain⟨I,hI⟩:=hI
 rw [hI] at kA hR
 have hR':=Lib.hid hR
 have k1':=Lib.hid k1
 have hT':=Lib.hid hT
 clear k1 hR hRR hI row kids hcap hwt kwt hlen hw he hp ih hT
 obtain⟨op,⟨lw,lh,ll⟩,hd,nm,hi,lo,ep,ec,el⟩:=e
 simp only [Ex.op,Ex.lit,Ex.head,Ex.name,Ex.hi,Ex.lo,Ex.p,Ex.cap,Ex.args] at *
 go_enter Tryz.func158,Tryz.ntmps158
 go_upto_region 1 with (fail)
 obtain⟨W,yy,hW,⟨z,hz2⟩,ca⟩:=box1n V _ 45
 rw [hW]
 have c0:=ca 0 _ rfl
 have c1:=ca 1 _ rfl
 have c2:=ca 2 _ rfl
 have c3:=ca 3 _ rfl
 have c4:=ca 4 _ rfl
 have c5:=ca 5 _ rfl
 have c6:=ca 6 _ rfl
 have c7:=ca 7 _ rfl
 have c8:=ca 8 _ rfl
 have hTW:There p act b1 b2 b3 W:=by rw [hz2];exact hT'.out.plus z
 have pc0:=fun y=>(hTW.plus y).pc 0 _ rfl
 have pc1:=fun y=>(hTW.plus y).pc 1 _ rfl
 have pc2:=fun y=>(hTW.plus y).pc 2 _ rfl
 have pc3:=fun y=>(hTW.plus y).pc 3 _ rfl
 have pc4:=fun y=>(hTW.plus y).pc 4 _ rfl
 have pc5:=fun y=>(hTW.plus y).pc 5 _ rfl
 have pc6:=fun y=>(hTW.plus y).pc 6 _ rfl
 have ac:=fun y=>(hTW.plus y).ac
 have q1:=Lib.hid (kp_at hz2 k1'.out)
 have qA:=Lib.hid (kA.out W z hz2).pure
 have hz2':=Lib.hid hz2
 clear hW hz2 ca k1' hT' hTW kA
 cases b with
 | false =>
  have hR:=Lib.hid (show false=R by rw [← hR'.out,Bool.false_and])
  clear hR' qA
  go_wp2_with (first|(go_at_call 159;with_reducible refine (q1.out _).mono ?_;rintro r w' ⟨rfl,x,rfl⟩))
  go_ret
  exact⟨congrArg (fun z=>Ending.returned (Value.bool z)) hR.out,by rw [hz2'.out,plus_plus];exact⟨_,rfl⟩⟩
 | true =>
  have hR:=Lib.hid (show (I == -1)=R by rw [← hR'.out,Bool.true_and])
  clear hR'
  go_wp2_with (first|(go_at_call 159;with_reducible refine (q1.out _).mono ?_;rintro r w' ⟨rfl,x,rfl⟩)|(go_at_call 160;with_reducible refine (qA.out _).mono ?_;rintro r w' ⟨rfl,x,rfl⟩))
  go_ret
  exact⟨congrArg (fun z=>Ending.returned (Value.bool z)) hR.out,by rw [hz2'.out,plus_plus];exact⟨_,rfl⟩⟩
set_option maxRecDepth 100000 in
set_option maxHeartbeats 8000000 in
theorem q_Names (p:Pr) (w:World) (h:p.In w) (hz:p.sz≤1048576) (act:Int) (e:Ex) (he:e.In w) (hw:e.wt≤1048576):Kp Tryz.prog w 94 #[.agg #[.slice p.headers.p p.headers.l.length p.headers.cap,.slice p.metas.p p.metas.l.length p.metas.cap,.slice p.states.p p.states.l.length p.states.cap,.slice p.actions.p p.actions.l.length p.actions.cap,.slice p.tables.p p.tables.l.length p.tables.cap,.slice p.control.p p.control.l.length p.control.cap,.slice p.emit.p p.emit.l.length p.emit.cap],.int .i64 act,.agg #[.int .u8 e.op,.int .i64 e.lit.w,.int .u64 e.lit.h,.int .u64 e.lit.l,.string e.head,.string e.name,.int .i64 e.hi,.int .i64 e.lo,.slice e.p e.args.length e.cap]] (.int .i64 (if e.there (isB p act) then 0 else 7)):=by
 intro y0
 have h:=h.plus y0
 have he:=he.plus y0
 obtain⟨V,hV⟩:∃ V,plus w y0=V:=⟨_,rfl⟩
 rw [hV] at h he ⊢
 clear hV
 have kN:=Lib.hid (fun (U:World) (z:Ext) (hU:U=plus V z) (b1 b2 b3:Nat) (hT:There p act b1 b2 b3 U)=>(show Kp Tryz.prog U 158 #[.agg #[.int .u8 e.op,.int .i64 e.lit.w,.int .u64 e.lit.h,.int .u64 e.lit.l,.string e.head,.string e.name,.int .i64 e.hi,.int .i64 e.lo,.slice e.p e.args.length e.cap],.pointer (some ⟨b1,0,none⟩),.pointer (some ⟨b2,0,none⟩),.pointer (some ⟨b3,0,none⟩)] (.bool (e.there (isB p act))) from
  there_in p act b1 b2 b3 hz e U (by rw [hU];exact h.plus z) hT (by rw [hU];exact he.plus z) hw))
 obtain⟨b,hb⟩:∃ b,e.there (isB p act)=b:=⟨_,rfl⟩
 rw [hb] at kN ⊢
 clear hb he hw h hz
 obtain⟨op,⟨lw,lh,ll⟩,hd,nm,hi,lo,ep,ec,el⟩:=e
 simp only [Ex.op,Ex.lit,Ex.head,Ex.name,Ex.hi,Ex.lo,Ex.p,Ex.cap,Ex.args] at *
 go_enter Tryz.func94,Tryz.ntmps94
 go_upto_region 3 with (fail)
 obtain⟨W,yy,hW,⟨z,hz2⟩,ca,cb,cc,cd⟩:=box4r V _ _ _ _ 30 3 45 108
 rw [hW]
 have w0:∀ {a:Addr} {v:Value},(∀ y,(plus W y).cell? a=some v)→W.cell? a=some v:=fun h=>by
  have:=h ⟨#[],W.drawn⟩
  rwa [plus_self] at this
 have e0:=cc 0 _ rfl
 have e1:=cc 1 _ rfl
 have e2:=cc 2 _ rfl
 have e3:=cc 3 _ rfl
 have e4:=cc 4 _ rfl
 have e5:=cc 5 _ rfl
 have e6:=cc 6 _ rfl
 have e7:=cc 7 _ rfl
 have e8:=cc 8 _ rfl
 have d0:=cd 0 _ rfl
 have q1:=Lib.hid (kN.out W z hz2 V.heap.size (V.heap.size+1) (V.heap.size+1+1+1) ⟨fun j v hj=>w0 (ca j _ (by simpa using hj)),w0 (cb 0 _ rfl),w0 (cd 0 _ rfl)⟩).pure
 have hz2':=Lib.hid hz2
 clear hW hz2 ca cb cc cd kN w0
 cases b with
 | true =>
  go_wp2_with (first|(refine (q1.out _).mono ?_;rintro r w' ⟨rfl,x,rfl⟩))
  go_ret
  exact⟨rfl,by rw [hz2'.out,plus_plus];exact⟨_,rfl⟩⟩
 | false =>
  go_wp2_with (first|(refine (q1.out _).mono ?_;rintro r w' ⟨rfl,x,rfl⟩))
  go_ret
  exact⟨rfl,by rw [hz2'.out,plus_plus];exact⟨_,rfl⟩⟩
end Go.Proofs.YtobhijbncchpiaaGreat

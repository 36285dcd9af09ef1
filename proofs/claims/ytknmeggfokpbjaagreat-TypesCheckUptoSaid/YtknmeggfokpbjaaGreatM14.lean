/-
  WHAT IS PROVED HERE: a part of the proof (made narrower and merged by program; the parts: Vp Zf Vs).
-/
import Derived.Test.YtknmeggfokpbjaaGreatM13
import Derived.Test.YtknmeggfokpbjaaGreatM5
set_option maxRecDepth 100000
set_option maxHeartbeats 8000000
set_option linter.all false
namespace Go.Proofs.YtknmeggfokpbjaaGreat
open Z
open Go.RowKit Go.Proofs.Tryz
open Below renaming refl→Zb
open Ending renaming returned→Zd
open Lib renaming hid→Zf
open List renaming drop_succ_cons→Zg,drop_zero→Zh,getElem?_eq_some_iff→Zi,mem_of_getElem?→Zo,take_succ_cons→Zs
open Nat renaming le_refl→Zt
open Go.Proofs.Tryz renaming prog→Zx
open Value renaming bool→Zy,int→Zz
open Go.RowKit
theorem S7(V:World)(c d f g:Array Value)(t u s r:TypeId):∃W y,(((V.alloc (.cells c t)).alloc (.cells d u)).alloc (.cells f s)).alloc (.cells g r)=plus W y∧(∃z,W=plus V z)∧(∀o v,c[o]?=v→∀y,(plus W y).cell? ⟨V.heap.size,o,none⟩=v)∧(∀o v,d[o]?=v→∀y,(plus W y).cell? ⟨V.heap.size+1,o,none⟩=v)∧(∀o v,f[o]?=v→∀y,(plus W y).cell? ⟨V.heap.size+1+1,o,none⟩=v)∧(∀o v,g[o]?=v→∀y,(plus W y).cell? ⟨V.heap.size+1+1+1,o,none⟩=v)∧(∀y o,(plus W y).frozen? ⟨V.heap.size+1+1+1,o,none⟩=false):=by
 obtain⟨W,hW,hB,hs,ca,cb,cc,fa,fb,fc⟩:=Su V c d f t u s;obtain⟨X,hX,VI,ZP,cg,fg⟩:=WS W g r;have YB:W.heap.size=V.heap.size+1+1+1:=asB;rw[←hW,←hX];obtain⟨z,hz⟩:=Yy hB;obtain⟨Xt,ZG⟩:=Yy VI;refine⟨X,⟨#[],X.drawn⟩,(Yk X).symm,⟨_,by rw[ZG,hz,ZD]⟩,?_,?_,?_,?_,?_⟩
 ·intro o v h y;rw[ZG,ZD];exact ca o v h _
 ·intro o v h y;rw[ZG,ZD];exact cb o v h _
 ·intro o v h y;rw[ZG,ZD];exact cc o v h _
 ·intro o v h y;rw[←YB];exact cg o v h y
 ·intro y o;rw[←YB];exact fg y o
theorem aL(e x y:Ex)(s t:Ty)(w:World)(ZF:e.In w)(hx:e.args[0]?=some x)(hy:e.args[1]?=some y)(cx:s.fr=true→x.chain=true)(cy:t.fr=true→y.chain=true)(hww:Yz s=0→Yz t=0→wrap64 (128-t.w)=128-t.w∧(s.w+t.w≤128→wrap64 (s.w+t.w)=s.w+t.w)) :
  Yr Zx w 51 #[e.val,s.v,t.v] (Yl (SP e.op x.free y.free s t).1 (SP e.op x.free y.free s t).2.v):=by
 intro y0;have kc:=(aC e x y s t w ZF hx hy cx cy).up y0;clear ZF hx hy cx cy;obtain⟨V,hV⟩:=ZB (plus w y0);rw[hV]at kc ⊢;clear hV;have ks:=Mk s V;have kt:=Mk t V;obtain⟨n,hn⟩:=ZB x.free;obtain⟨m,hm⟩:=ZB y.free;rw[hn,hm]at kc ⊢;obtain⟨op,⟨lw,lh,ll⟩,hd,nm,eh,el,ep,ec,eargs⟩:=e;simp only[Ex.val,Ex.cells,Ex.op,Ex.lit,Ex.head,Ex.name,Ex.hi,Ex.lo,Ex.p,Ex.args,Ex.cap]at kc ⊢;obtain⟨M,hM⟩:=ZB eargs.length;rw[hM]at kc ⊢;obtain⟨C,hC⟩:=ZB (WC n m s t);rw[hC]at kc;obtain⟨PP,hP⟩:=ZB (SP op n m s t);rw[hP];unfold SP at hP;rw[hC]at hP;obtain⟨C1,C2⟩:=C;obtain⟨sw,st,sf⟩:=s;obtain⟨tw,tt,tf⟩:=t;simp only[Ty.v]at kc ks kt ⊢;have Xh:=Zf hP;have kc':=Zf kc;have ks':=Zf ks;have kt':=Zf kt;have Ou:=Zf hww;clear hM hn hm hC hP kc ks kt hww;by_cases h11:op=11
 ·subst h11
  cases st with
  | true =>
   obtain rfl:PP=(9,XH):=atK;simp only[Yl,show ¬((9:Int)=0) by decide,if_false];rw[show (if Yz ⟨sw,true,sf⟩=0 then Zd (.int .i64 sw) else YJ (Yz ⟨sw,true,sf⟩))=YJ 9 from rfl]at ks';go_enter func51,ntmps51;go_wp2_with fail;obtain⟨X,Y0,hX,⟨zX,ZE⟩,ca,cb,cc,cd,fd⟩:=S7 V _ _ _ _ 45 75 75 75;rw[hX];have c0:=ca 0 _ rfl;have c1:=ca 1 _ rfl;have c2:=ca 2 _ rfl;have c3:=ca 3 _ rfl;have c4:=ca 4 _ rfl;have c5:=ca 5 _ rfl;have c6:=ca 6 _ rfl;have c7:=ca 7 _ rfl;have c8:=ca 8 _ rfl;have s0:=cb 0 _ rfl;have s1:=cb 1 _ rfl;have s2:=cb 2 _ rfl;have t0:=cc 0 _ rfl;have t1:=cc 1 _ rfl;have t2:=cc 2 _ rfl;have hR:=Zf (VB ⟨zX,ZE⟩ (show V.heap.size≤V.heap.size+1+1+1 by omega) cd fd);have kc2:=Zf (Xf ZE kc'.out);have ks2:=Zf (Xf ZE ks'.out);have kt2:=Zf (Xf ZE kt'.out);have ZY:=Zf ZE;clear hX ca cb cc cd fd ZE kc' ks' kt';have ksd:=Zf (ks2.out ⟨Y0.blocks,Y0.draws+1⟩);clear kc2 ks2 kt2 hR;go_region_dies;all_goals
    refine ksd.out.mono ?_;rintro r w' ⟨rfl,x1,rfl⟩;exact⟨rfl,rfl,asK⟩
  | false =>
   cases sf with
   | true =>
    obtain rfl:PP=(10,XH):=atK;simp only[Yl,show ¬((10:Int)=0) by decide,if_false];rw[show (if Yz ⟨sw,false,true⟩=0 then Zd (.int .i64 sw) else YJ (Yz ⟨sw,false,true⟩))=YJ 10 from rfl]at ks';go_enter func51,ntmps51;go_wp2_with fail;obtain⟨X,Y0,hX,⟨zX,ZE⟩,ca,cb,cc,cd,fd⟩:=S7 V _ _ _ _ 45 75 75 75;rw[hX];have c0:=ca 0 _ rfl;have c1:=ca 1 _ rfl;have c2:=ca 2 _ rfl;have c3:=ca 3 _ rfl;have c4:=ca 4 _ rfl;have c5:=ca 5 _ rfl;have c6:=ca 6 _ rfl;have c7:=ca 7 _ rfl;have c8:=ca 8 _ rfl;have s0:=cb 0 _ rfl;have s1:=cb 1 _ rfl;have s2:=cb 2 _ rfl;have t0:=cc 0 _ rfl;have t1:=cc 1 _ rfl;have t2:=cc 2 _ rfl;have hR:=Zf (VB ⟨zX,ZE⟩ (show V.heap.size≤V.heap.size+1+1+1 by omega) cd fd);have kc2:=Zf (Xf ZE kc'.out);have ks2:=Zf (Xf ZE ks'.out);have kt2:=Zf (Xf ZE kt'.out);have ZY:=Zf ZE;clear hX ca cb cc cd fd ZE kc' ks' kt';have ksd:=Zf (ks2.out ⟨Y0.blocks,Y0.draws+1⟩);clear kc2 ks2 kt2 hR;go_region_dies;all_goals
     refine ksd.out.mono ?_;rintro r w' ⟨rfl,x1,rfl⟩;exact⟨rfl,rfl,asK⟩
   | false =>
    cases tt with
    | true =>
     obtain rfl:PP=(9,XH):=atK;simp only[Yl,show ¬((9:Int)=0) by decide,if_false];rw[show (if Yz ⟨sw,false,false⟩=0 then Zd (.int .i64 sw) else YJ (Yz ⟨sw,false,false⟩))=.returned (.int .i64 sw) from rfl]at ks';rw[show (if Yz ⟨tw,true,tf⟩=0 then Zd (.int .i64 tw) else YJ (Yz ⟨tw,true,tf⟩))=YJ 9 from rfl]at kt';go_enter func51,ntmps51;go_wp2_with fail;obtain⟨X,Y0,hX,⟨zX,ZE⟩,ca,cb,cc,cd,fd⟩:=S7 V _ _ _ _ 45 75 75 75;rw[hX];have c0:=ca 0 _ rfl;have c1:=ca 1 _ rfl;have c2:=ca 2 _ rfl;have c3:=ca 3 _ rfl;have c4:=ca 4 _ rfl;have c5:=ca 5 _ rfl;have c6:=ca 6 _ rfl;have c7:=ca 7 _ rfl;have c8:=ca 8 _ rfl;have s0:=cb 0 _ rfl;have s1:=cb 1 _ rfl;have s2:=cb 2 _ rfl;have t0:=cc 0 _ rfl;have t1:=cc 1 _ rfl;have t2:=cc 2 _ rfl;have hR:=Zf (VB ⟨zX,ZE⟩ (show V.heap.size≤V.heap.size+1+1+1 by omega) cd fd);have kc2:=Zf (Xf ZE kc'.out);have ks2:=Zf (Xf ZE ks'.out);have kt2:=Zf (Xf ZE kt'.out);have ZY:=Zf ZE;clear hX ca cb cc cd fd ZE kc' ks' kt';refine Wj 3 asC asC ?_;simp only[Zs,List.take_zero,Zg,Zh];repeat (go_big_quiet_step (first|(with_reducible exact ks2.out _)))
     refine wpQuiet_nil ?_;rintro _ ⟨v1,rfl⟩;go_wp2_with fail;refine (kt2.out v1).mono ?_;rintro r w' ⟨rfl,v2,rfl⟩;clear ks2 kt2 kc2;go_wp2;exact⟨rfl,rfl,asK⟩
    | false =>
     cases tf with
     | true =>
      obtain rfl:PP=(10,XH):=atK;simp only[Yl,show ¬((10:Int)=0) by decide,if_false];rw[show (if Yz ⟨sw,false,false⟩=0 then Zd (.int .i64 sw) else YJ (Yz ⟨sw,false,false⟩))=.returned (.int .i64 sw) from rfl]at ks';rw[show (if Yz ⟨tw,false,true⟩=0 then Zd (.int .i64 tw) else YJ (Yz ⟨tw,false,true⟩))=YJ 10 from rfl]at kt';go_enter func51,ntmps51;go_wp2_with fail;obtain⟨X,Y0,hX,⟨zX,ZE⟩,ca,cb,cc,cd,fd⟩:=S7 V _ _ _ _ 45 75 75 75;rw[hX];have c0:=ca 0 _ rfl;have c1:=ca 1 _ rfl;have c2:=ca 2 _ rfl;have c3:=ca 3 _ rfl;have c4:=ca 4 _ rfl;have c5:=ca 5 _ rfl;have c6:=ca 6 _ rfl;have c7:=ca 7 _ rfl;have c8:=ca 8 _ rfl;have s0:=cb 0 _ rfl;have s1:=cb 1 _ rfl;have s2:=cb 2 _ rfl;have t0:=cc 0 _ rfl;have t1:=cc 1 _ rfl;have t2:=cc 2 _ rfl;have hR:=Zf (VB ⟨zX,ZE⟩ (show V.heap.size≤V.heap.size+1+1+1 by omega) cd fd);have kc2:=Zf (Xf ZE kc'.out);have ks2:=Zf (Xf ZE ks'.out);have kt2:=Zf (Xf ZE kt'.out);have ZY:=Zf ZE;clear hX ca cb cc cd fd ZE kc' ks' kt';refine Wj 3 asC asC ?_;simp only[Zs,List.take_zero,Zg,Zh];repeat (go_big_quiet_step (first|(with_reducible exact ks2.out _)))
      refine wpQuiet_nil ?_;rintro _ ⟨v1,rfl⟩;go_wp2_with fail;refine (kt2.out v1).mono ?_;rintro r w' ⟨rfl,v2,rfl⟩;clear ks2 kt2 kc2;go_wp2;exact⟨rfl,rfl,asK⟩
     | false =>
      have UT:=Ou.out rfl rfl;simp only at UT;rw[show (if Yz ⟨sw,false,false⟩=0 then Zd (.int .i64 sw) else YJ (Yz ⟨sw,false,false⟩))=.returned (.int .i64 sw) from rfl]at ks';rw[show (if Yz ⟨tw,false,false⟩=0 then Zd (.int .i64 tw) else YJ (Yz ⟨tw,false,false⟩))=.returned (.int .i64 tw) from rfl]at kt';by_cases q:128<sw+tw
      ·obtain rfl:PP=(5,XH):=by rw[←Xh.out];simp[Yz,q]
       simp only[Yl,show ¬((5:Int)=0) by decide,if_false];have q2:¬sw≤128-tw:=asB;have hw3:=Zf UT.1;clear UT;go_enter func51,ntmps51;go_wp2_with fail;obtain⟨X,Y0,hX,⟨zX,ZE⟩,ca,cb,cc,cd,fd⟩:=S7 V _ _ _ _ 45 75 75 75;rw[hX];have c0:=ca 0 _ rfl;have c1:=ca 1 _ rfl;have c2:=ca 2 _ rfl;have c3:=ca 3 _ rfl;have c4:=ca 4 _ rfl;have c5:=ca 5 _ rfl;have c6:=ca 6 _ rfl;have c7:=ca 7 _ rfl;have c8:=ca 8 _ rfl;have s0:=cb 0 _ rfl;have s1:=cb 1 _ rfl;have s2:=cb 2 _ rfl;have t0:=cc 0 _ rfl;have t1:=cc 1 _ rfl;have t2:=cc 2 _ rfl;have hR:=Zf (VB ⟨zX,ZE⟩ (show V.heap.size≤V.heap.size+1+1+1 by omega) cd fd);have kc2:=Zf (Xf ZE kc'.out);have ks2:=Zf (Xf ZE ks'.out);have kt2:=Zf (Xf ZE kt'.out);have ZY:=Zf ZE;clear hX ca cb cc cd fd ZE kc' ks' kt';refine Wj 3 asC asC ?_;simp only[Zs,List.take_zero,Zg,Zh];repeat (go_big_quiet_step (first|(with_reducible exact ks2.out _)))
       refine wpQuiet_nil ?_;rintro _ ⟨v1,rfl⟩;go_wp2_with fail;refine (kt2.out v1).mono ?_;rintro r w' ⟨rfl,v2,rfl⟩;clear ks2 kt2 kc2;go_wp2_with fail;rw[hw3.out,show decide (sw≤128-tw)=false by simpa using q2];refine (UD X 5 v2).mono ?_;rintro r w' ⟨rfl,x9,rfl⟩;go_wp2;exact⟨rfl,rfl,ati⟩
      ·obtain rfl:PP=(0,⟨sw+tw,false,false⟩):=by rw[←Xh.out];simp[Yz,q,XN]
       simp only[Yl,if_pos];have q2:sw≤128-tw:=asB;have hw3:=Zf UT.1;have hw4:=Zf (UT.2 asB);clear UT;go_enter func51,ntmps51;go_wp2_with fail;obtain⟨X,Y0,hX,⟨zX,ZE⟩,ca,cb,cc,cd,fd⟩:=S7 V _ _ _ _ 45 75 75 75;rw[hX];have c0:=ca 0 _ rfl;have c1:=ca 1 _ rfl;have c2:=ca 2 _ rfl;have c3:=ca 3 _ rfl;have c4:=ca 4 _ rfl;have c5:=ca 5 _ rfl;have c6:=ca 6 _ rfl;have c7:=ca 7 _ rfl;have c8:=ca 8 _ rfl;have s0:=cb 0 _ rfl;have s1:=cb 1 _ rfl;have s2:=cb 2 _ rfl;have t0:=cc 0 _ rfl;have t1:=cc 1 _ rfl;have t2:=cc 2 _ rfl;have hR:=Zf (VB ⟨zX,ZE⟩ (show V.heap.size≤V.heap.size+1+1+1 by omega) cd fd);have kc2:=Zf (Xf ZE kc'.out);have ks2:=Zf (Xf ZE ks'.out);have kt2:=Zf (Xf ZE kt'.out);have ZY:=Zf ZE;clear hX ca cb cc cd fd ZE kc' ks' kt';refine Wj 3 asC asC ?_;simp only[Zs,List.take_zero,Zg,Zh];repeat (go_big_quiet_step (first|(with_reducible exact ks2.out _)))
       refine wpQuiet_nil ?_;rintro _ ⟨v1,rfl⟩;go_wp2_with fail;refine (kt2.out v1).mono ?_;rintro r w' ⟨rfl,v2,rfl⟩;clear ks2 kt2 kc2;go_wp2_with fail;rw[hw3.out,show decide (sw≤128-tw)=true by simpa using q2];refine (Vq X 5 v2).mono ?_;rintro r w' ⟨rfl,x5,rfl⟩;rw[ZD];obtain⟨Y5,hY5⟩:=ZB ((⟨ZH.blocks v2++ZH.blocks x5,ZH.draws x5⟩:ZH):ZH);rw[hY5];clear hY5;go_wp2_with fail;rw[hw4.out];refine (OS (sw+tw) X Y5).mono ?_;rintro r w' ⟨rfl,x6,rfl⟩;rw[ZD];obtain⟨Y6,hY6⟩:=ZB ((⟨ZH.blocks Y5++ZH.blocks x6,ZH.draws x6⟩:ZH):ZH);rw[hY6];clear hY6;simp only[Ty.v,XN];have YS:=hR.out Y6;have r0:=YS.r0;have r1:=YS.r1;have r2:=YS.r2;have rf:=YS.rf;have Vu:=Zf YS;clear YS hR;go_wp2;obtain⟨Z,hZ,g0,g1,g2,hV⟩:=Vu.out.set ⟨(sw+tw),false,false⟩;simp only at hZ;rw[hZ];clear hZ;exact bodyPost_ret (v:=.agg #[.int .i64 (sw+tw),.bool false,.bool false]) atL rfl ⟨rfl,hV⟩
 by_cases M5:op=25∨op=26
 ·rcases M5 with rfl|rfl
  all_goals
   cases st with
   | true =>
    cases tt with
    | true =>
     obtain rfl:PP=(0,⟨sw,true,sf⟩):=atM;simp only[Yl,if_pos];clear Xh Ou;go_enter func51,ntmps51;go_wp2_with fail;obtain⟨X,Y0,hX,⟨zX,ZE⟩,ca,cb,cc,cd,fd⟩:=S7 V _ _ _ _ 45 75 75 75;rw[hX];have c0:=ca 0 _ rfl;have c1:=ca 1 _ rfl;have c2:=ca 2 _ rfl;have c3:=ca 3 _ rfl;have c4:=ca 4 _ rfl;have c5:=ca 5 _ rfl;have c6:=ca 6 _ rfl;have c7:=ca 7 _ rfl;have c8:=ca 8 _ rfl;have s0:=cb 0 _ rfl;have s1:=cb 1 _ rfl;have s2:=cb 2 _ rfl;have t0:=cc 0 _ rfl;have t1:=cc 1 _ rfl;have t2:=cc 2 _ rfl;have hR:=Zf (VB ⟨zX,ZE⟩ (show V.heap.size≤V.heap.size+1+1+1 by omega) cd fd);have kc2:=Zf (Xf ZE kc'.out);have ks2:=Zf (Xf ZE ks'.out);have kt2:=Zf (Xf ZE kt'.out);have ZY:=Zf ZE;clear hX ca cb cc cd fd ZE kc' ks' kt';clear kc2 ks2 kt2;refine (Vq X 9 Y0).mono ?_;rintro r w' ⟨rfl,x5,rfl⟩;rw[ZD];obtain⟨Y5,hY5⟩:=ZB ((⟨ZH.blocks Y0++ZH.blocks x5,ZH.draws x5⟩:ZH):ZH);rw[hY5];clear hY5;have YS:=hR.out Y5;have r0:=YS.r0;have r1:=YS.r1;have r2:=YS.r2;have rf:=YS.rf;have Vu:=Zf YS;clear YS hR;go_wp2;obtain⟨Z,hZ,g0,g1,g2,hV⟩:=Vu.out.set ⟨sw,true,sf⟩;simp only at hZ;rw[hZ];clear hZ;exact bodyPost_ret (v:=.agg #[.int .i64 sw,.bool true,.bool sf]) atL rfl ⟨rfl,hV⟩
    | false =>
     obtain rfl:PP=(9,XH):=atM;simp only[Yl,show ¬((9:Int)=0) by decide,if_false];clear Xh Ou;go_enter func51,ntmps51;go_wp2_with fail;obtain⟨X,Y0,hX,⟨zX,ZE⟩,ca,cb,cc,cd,fd⟩:=S7 V _ _ _ _ 45 75 75 75;rw[hX];have c0:=ca 0 _ rfl;have c1:=ca 1 _ rfl;have c2:=ca 2 _ rfl;have c3:=ca 3 _ rfl;have c4:=ca 4 _ rfl;have c5:=ca 5 _ rfl;have c6:=ca 6 _ rfl;have c7:=ca 7 _ rfl;have c8:=ca 8 _ rfl;have s0:=cb 0 _ rfl;have s1:=cb 1 _ rfl;have s2:=cb 2 _ rfl;have t0:=cc 0 _ rfl;have t1:=cc 1 _ rfl;have t2:=cc 2 _ rfl;have hR:=Zf (VB ⟨zX,ZE⟩ (show V.heap.size≤V.heap.size+1+1+1 by omega) cd fd);have kc2:=Zf (Xf ZE kc'.out);have ks2:=Zf (Xf ZE ks'.out);have kt2:=Zf (Xf ZE kt'.out);have ZY:=Zf ZE;clear hX ca cb cc cd fd ZE kc' ks' kt';clear kc2 ks2 kt2 hR;refine (UD X 9 Y0).mono ?_;rintro r w' ⟨rfl,x5,rfl⟩;go_wp2;exact⟨rfl,rfl,ati⟩
   | false =>
    obtain rfl:PP=(9,XH):=atM;simp only[Yl,show ¬((9:Int)=0) by decide,if_false];clear Xh Ou;go_enter func51,ntmps51;go_wp2_with fail;obtain⟨X,Y0,hX,⟨zX,ZE⟩,ca,cb,cc,cd,fd⟩:=S7 V _ _ _ _ 45 75 75 75;rw[hX];have c0:=ca 0 _ rfl;have c1:=ca 1 _ rfl;have c2:=ca 2 _ rfl;have c3:=ca 3 _ rfl;have c4:=ca 4 _ rfl;have c5:=ca 5 _ rfl;have c6:=ca 6 _ rfl;have c7:=ca 7 _ rfl;have c8:=ca 8 _ rfl;have s0:=cb 0 _ rfl;have s1:=cb 1 _ rfl;have s2:=cb 2 _ rfl;have t0:=cc 0 _ rfl;have t1:=cc 1 _ rfl;have t2:=cc 2 _ rfl;have hR:=Zf (VB ⟨zX,ZE⟩ (show V.heap.size≤V.heap.size+1+1+1 by omega) cd fd);have kc2:=Zf (Xf ZE kc'.out);have ks2:=Zf (Xf ZE ks'.out);have kt2:=Zf (Xf ZE kt'.out);have ZY:=Zf ZE;clear hX ca cb cc cd fd ZE kc' ks' kt';clear kc2 ks2 kt2 hR;refine (UD X 9 Y0).mono ?_;rintro r w' ⟨rfl,x5,rfl⟩;go_wp2;exact⟨rfl,rfl,ati⟩
 by_cases hcmp:19≤op∧op≤24
 ·obtain h6:op=19∨op=20∨op=21∨op=22∨op=23∨op=24:=by omega
  clear hcmp h11 M5;rcases h6 with rfl|rfl|rfl|rfl|rfl|rfl
  all_goals
   by_cases z:C1=0
   ·subst z
    obtain rfl:PP=(0,⟨0,true,false⟩):=atM;simp only[Yl,if_pos]at kc' ⊢;clear Xh Ou;go_enter func51,ntmps51;go_wp2_with fail;obtain⟨X,Y0,hX,⟨zX,ZE⟩,ca,cb,cc,cd,fd⟩:=S7 V _ _ _ _ 45 75 75 75;rw[hX];have c0:=ca 0 _ rfl;have c1:=ca 1 _ rfl;have c2:=ca 2 _ rfl;have c3:=ca 3 _ rfl;have c4:=ca 4 _ rfl;have c5:=ca 5 _ rfl;have c6:=ca 6 _ rfl;have c7:=ca 7 _ rfl;have c8:=ca 8 _ rfl;have s0:=cb 0 _ rfl;have s1:=cb 1 _ rfl;have s2:=cb 2 _ rfl;have t0:=cc 0 _ rfl;have t1:=cc 1 _ rfl;have t2:=cc 2 _ rfl;have hR:=Zf (VB ⟨zX,ZE⟩ (show V.heap.size≤V.heap.size+1+1+1 by omega) cd fd);have kc2:=Zf (Xf ZE kc'.out);have ks2:=Zf (Xf ZE ks'.out);have kt2:=Zf (Xf ZE kt'.out);have ZY:=Zf ZE;clear hX ca cb cc cd fd ZE kc' ks' kt';refine (kc2.out Y0).mono ?_;rintro r w' ⟨rfl,x5,rfl⟩;clear kc2 ks2 kt2;go_wp2_with fail;refine (xz X x5).mono ?_;rintro r w' ⟨rfl,x6,rfl⟩;rw[ZD];obtain⟨Y6,hY6⟩:=ZB ((⟨ZH.blocks x5++ZH.blocks x6,ZH.draws x6⟩:ZH):ZH);rw[hY6];clear hY6;simp only[Ty.v];have YS:=hR.out Y6;have r0:=YS.r0;have r1:=YS.r1;have r2:=YS.r2;have rf:=YS.rf;have Vu:=Zf YS;clear YS hR;go_wp2;obtain⟨Z,hZ,g0,g1,g2,hV⟩:=Vu.out.set ⟨0,true,false⟩;simp only at hZ;rw[hZ];clear hZ;exact bodyPost_ret (v:=.agg #[.int .i64 0,.bool true,.bool false]) atL rfl ⟨rfl,hV⟩
   ·obtain rfl:PP=(C1,XH):=by rw[←Xh.out];simp[z]
    simp only[Yl,if_neg z]at kc' ⊢;clear Xh Ou;go_enter func51,ntmps51;go_wp2_with fail;obtain⟨X,Y0,hX,⟨zX,ZE⟩,ca,cb,cc,cd,fd⟩:=S7 V _ _ _ _ 45 75 75 75;rw[hX];have c0:=ca 0 _ rfl;have c1:=ca 1 _ rfl;have c2:=ca 2 _ rfl;have c3:=ca 3 _ rfl;have c4:=ca 4 _ rfl;have c5:=ca 5 _ rfl;have c6:=ca 6 _ rfl;have c7:=ca 7 _ rfl;have c8:=ca 8 _ rfl;have s0:=cb 0 _ rfl;have s1:=cb 1 _ rfl;have s2:=cb 2 _ rfl;have t0:=cc 0 _ rfl;have t1:=cc 1 _ rfl;have t2:=cc 2 _ rfl;have hR:=Zf (VB ⟨zX,ZE⟩ (show V.heap.size≤V.heap.size+1+1+1 by omega) cd fd);have kc2:=Zf (Xf ZE kc'.out);have ks2:=Zf (Xf ZE ks'.out);have kt2:=Zf (Xf ZE kt'.out);have ZY:=Zf ZE;clear hX ca cb cc cd fd ZE kc' ks' kt';refine (kc2.out Y0).mono ?_;rintro r w' ⟨rfl,x5,rfl⟩;clear kc2 ks2 kt2 hR;go_wp2;exact⟨rfl,rfl,asK⟩
 have o11:(op==11)=false:=by simpa using h11
 have o19:(op==19)=false:=beq_eq_false_iff_ne.2 (show op≠19 by omega);have o20:(op==20)=false:=beq_eq_false_iff_ne.2 (show op≠20 by omega);have o21:(op==21)=false:=beq_eq_false_iff_ne.2 (show op≠21 by omega);have o22:(op==22)=false:=beq_eq_false_iff_ne.2 (show op≠22 by omega);have o23:(op==23)=false:=beq_eq_false_iff_ne.2 (show op≠23 by omega);have o24:(op==24)=false:=beq_eq_false_iff_ne.2 (show op≠24 by omega);have o25:(op==25)=false:=beq_eq_false_iff_ne.2 (show op≠25 by omega);have o26:(op==26)=false:=beq_eq_false_iff_ne.2 (show op≠26 by omega);by_cases z:C1=0
 ·subst z
  obtain rfl:PP=(0,⟨C2,false,false⟩):=by rw[←Xh.out];simp[h11,M5,hcmp,XN]
  simp only[Yl,if_pos]at kc' ⊢;open Z renaming acl→BG in exact ww
 ·obtain rfl:PP=(C1,XH):=by rw[←Xh.out];simp[h11,M5,z]
  simp only[Yl,if_neg z]at kc' ⊢;open Z renaming acm→BG in exact ww
theorem nE(V:World)(c d f g:Array Value)(t u s r:TypeId):∃W y,(((V.alloc (.cells c t)).alloc (.cells d u)).alloc (.cells f s)).alloc (.cells g r)=plus W y∧(∃z,W=plus V z) ∧
  (∀o v,c[o]?=v→∀y,(plus W y).cell? ⟨V.heap.size,o,none⟩=v) ∧
  (∀o v,d[o]?=v→∀y,(plus W y).cell? ⟨V.heap.size+1,o,none⟩=v) ∧
  (∀o v,f[o]?=v→∀y,(plus W y).cell? ⟨V.heap.size+1+1,o,none⟩=v) ∧
  (∀o v,g[o]?=v→∀y,(plus W y).cell? ⟨V.heap.size+1+1+1,o,none⟩=v):=by
 have h1:(V.alloc (.cells c t)).heap.size=V.heap.size+1:=asD;have h2:((V.alloc (.cells c t)).alloc (.cells d u)).heap.size=V.heap.size+1+1:=asD;have h3:(((V.alloc (.cells c t)).alloc (.cells d u)).alloc (.cells f s)).heap.size=V.heap.size+1+1+1:=asD;have hs:((((V.alloc (.cells c t)).alloc (.cells d u)).alloc (.cells f s)).alloc (.cells g r)).heap.size=V.heap.size+1+1+1+1:=asD;have hB:Below V.heap.size V ((((V.alloc (.cells c t)).alloc (.cells d u)).alloc (.cells f s)).alloc (.cells g r)):=(((((Zb _ _).alloc (Zt _) _).alloc asB _).alloc asB _).alloc asB _);exact⟨_,⟨#[],_⟩,(Yk _).symm,Yy hB,
  fun o v e=>QA asB ((V6 _ _ _ o asB).trans ((V6 _ _ _ o asB).trans ((V6 _ _ _ o asB).trans ((YI V c t _ o rfl).trans e)))),
  fun o v e=>QA asB ((V6 _ _ _ o asB).trans ((V6 _ _ _ o asB).trans ((YI _ d u _ o h1.symm).trans e))),
  fun o v e=>QA asB ((V6 _ _ _ o asB).trans ((YI _ f s _ o h2.symm).trans e)),
  fun o v e=>QA asB ((YI _ g r _ o h3.symm).trans e)⟩
structure Nl (p:Pr) (act:Int) (b1 b2 b3:Nat) (w:World):Prop where
 pc:∀j v,[.slice p.headers.p p.headers.l.length p.headers.cap,.slice p.metas.p p.metas.l.length p.metas.cap,.slice p.states.p p.states.l.length p.states.cap,.slice p.actions.p p.actions.l.length p.actions.cap,.slice p.tables.p p.tables.l.length p.tables.cap,.slice p.control.p p.control.l.length p.control.cap,.slice p.emit.p p.emit.l.length p.emit.cap][j]?=some v→w.cell? ⟨b1,j,none⟩=some v
 ac:w.cell? ⟨b2,0,none⟩=some (.int .i64 act)
 tc:w.cell? ⟨b3,0,none⟩=some (.func (.func 158) #[] #[.pointer (some ⟨b1,0,none⟩),.pointer (some ⟨b2,0,none⟩),.pointer (some ⟨b3,0,none⟩)])
theorem Nl.plus{p:Pr}{act:Int}{b1 b2 b3:Nat}{w:World}(h:Nl p act b1 b2 b3 w)(x:ZH):Nl p act b1 b2 b3 (plus w x) :=
 ⟨fun j v hj=>ZS (h.pc j v hj) x,ZS h.ac x,ZS h.tc x⟩
theorem aak(p:Pr)(act:Int)(b1 b2 b3:Nat)(hz:p.sz≤1048576)(e:Ex):∀w,p.In w→Nl p act b1 b2 b3 w→e.In w→e.wt≤1048576→Kp Zx w 158 #[.agg #[.int .u8 e.op,.int .i64 e.lit.w,.int .u64 e.lit.h,.int .u64 e.lit.l,.string e.head,.string e.name,.int .i64 e.hi,.int .i64 e.lo,.slice e.p e.args.length e.cap],.pointer (some ⟨b1,0,none⟩),.pointer (some ⟨b2,0,none⟩),.pointer (some ⟨b3,0,none⟩)] (.bool (e.there (YP p act))):=by
 induction e using Ex.ind with
 | _ e ih =>
 intro w hp hT he hw y0;have hp:=hp.plus y0;have hT:=hT.plus y0;have he:=he.plus y0;obtain⟨V,hV⟩:=ZB (plus w y0);rw[hV]at hp hT he ⊢;clear hV;have row:Xa V 9 Ex.cells e.p e.args:=by cases he;assumption
 have kids:∀x∈e.args,x.In V:=by cases he;assumption
 have Oh:e.args.length≤e.cap∧e.cap≤maxLen:=by cases he;exact⟨by assumption,by assumption⟩
 have Wk:=Ex.wt_eq e;have kwt:∀x∈e.args,x.wt≤1048576:=fun x hx=>by
  have:=YW Ex.wt e.args x hx;omega
 have XQ:e.args.length≤1048576:=by
  have:=XM Ex.wt Ex.wt_pos e.args;omega
 have ZL:=ey p V hp hz act e;have kA:=Zf (fun (U:World) (z:ZH) (hU:U=plus V z)=>(show Kp Zx U 160 #[.slice e.p e.args.length e.cap,.func (.func 161) #[] #[.pointer (some ⟨b3,0,none⟩)]] (.int .i64 (YL (fun x=>!x.there (YP p act)) e.args 0)) from by
  subst hU;exact lO Ex.cells J6 (fun x=>!x.there (YP p act)) 161 #[] #[.pointer (some ⟨b3,0,none⟩)] (Ex.In (plus V z)) (plus V z) ⟨e.p,e.cap,e.args⟩ ⟨Oh.1,Oh.2,row.plus z,fun x hx=>(kids x hx).plus z⟩ XQ (enters_of func161 asC rfl)
   (fun x hx=>iW b3 _ 158 _ rfl (enters_of func158 asC rfl) x _ (plus V z) (hT.plus z).tc (ih x hx (plus V z) (hp.plus z) (hT.plus z) ((kids x hx).plus z) (kwt x hx)))))
 have hR:(YP p act e&&e.args.all (Ex.there (YP p act)))=e.there (YP p act):=(Ex.there_eq (YP p act) e).symm;rw[←Ba (Ex.there (YP p act)) e.args 0]at hR;obtain⟨R,hRR⟩:=ZB (e.there (YP p act));rw[hRR]at hR ⊢;generalize YP p act e=b at ZL hR;have hI:∃I,YL (fun x=>!x.there (YP p act)) e.args 0=I:=⟨_,rfl⟩;obtain⟨I,hI⟩:=hI;rw[hI]at kA hR;have ZR:=Zf hR;have ZL':=Zf ZL;have WB:=Zf hT;clear ZL hR hRR hI row kids Oh Wk kwt XQ hw he hp ih hT;open Z renaming ai8→Jf in exact IL
theorem JR(p:Pr)(w:World)(h:p.In w)(hz:p.sz≤1048576)(act)(e:Ex)(he:e.In w)(hw:e.wt≤1048576):Kp Zx w 94 #[.agg #[.slice p.headers.p p.headers.l.length p.headers.cap,.slice p.metas.p p.metas.l.length p.metas.cap,.slice p.states.p p.states.l.length p.states.cap,.slice p.actions.p p.actions.l.length p.actions.cap,.slice p.tables.p p.tables.l.length p.tables.cap,.slice p.control.p p.control.l.length p.control.cap,.slice p.emit.p p.emit.l.length p.emit.cap],.int .i64 act,.agg #[.int .u8 e.op,.int .i64 e.lit.w,.int .u64 e.lit.h,.int .u64 e.lit.l,.string e.head,.string e.name,.int .i64 e.hi,.int .i64 e.lo,.slice e.p e.args.length e.cap]] (.int .i64 (if e.there (YP p act) then 0 else 7)):=by
 intro y0;have h:=h.plus y0;have he:=he.plus y0;obtain⟨V,hV⟩:=ZB (plus w y0);rw[hV]at h he ⊢;clear hV;have kN:=Zf (fun (U:World) (z:ZH) (hU:U=plus V z) (b1 b2 b3:Nat) (hT:Nl p act b1 b2 b3 U)=>(show Kp Zx U 158 #[.agg #[.int .u8 e.op,.int .i64 e.lit.w,.int .u64 e.lit.h,.int .u64 e.lit.l,.string e.head,.string e.name,.int .i64 e.hi,.int .i64 e.lo,.slice e.p e.args.length e.cap],.pointer (some ⟨b1,0,none⟩),.pointer (some ⟨b2,0,none⟩),.pointer (some ⟨b3,0,none⟩)] (.bool (e.there (YP p act))) from
  aak p act b1 b2 b3 hz e U (by rw[hU];exact h.plus z) hT (by rw[hU];exact he.plus z) hw))
 obtain⟨b,hb⟩:=ZB (e.there (YP p act));rw[hb]at kN ⊢;clear hb he hw h hz;open Z renaming ai9→Jf in exact IL
theorem lJ(p1 n1 c1 p2 n2 c2 p3 n3 c3 p4 n4 c4 p5 n5 c5 p6 n6 c6)(pa:Addr)(n nc:Nat)(act hd nm xn yn)(k i:Nat)(fp:Addr)(fn fc:Nat)(yw)(w:World)(hk:k<n)(hi:i<fn)(hc:Yg w (pa.add (k*2)) [.string xn,.slice (some fp) fn fc])(XU:Yg w (fp.add (i*2)) [.string yn,.int .i64 yw])(h1:Kp Zx w 87 #[.agg #[.slice (some pa) n nc,.slice p1 n1 c1,.slice p2 n2 c2,.slice p3 n3 c3,.slice p4 n4 c4,.slice p5 n5 c5,.slice p6 n6 c6],.string hd] (.int .i64 (k:Int)))(h2:Kp Zx w 83 #[.agg #[.slice (some pa) n nc,.slice p1 n1 c1,.slice p2 n2 c2,.slice p3 n3 c3,.slice p4 n4 c4,.slice p5 n5 c5,.slice p6 n6 c6],.int .i64 (k:Int),.string nm] (.int .i64 (i:Int))) :
  Kp Zx w 125 #[.agg #[.slice (some pa) n nc,.slice p1 n1 c1,.slice p2 n2 c2,.slice p3 n3 c3,.slice p4 n4 c4,.slice p5 n5 c5,.slice p6 n6 c6,.int .i64 act],.string hd,.string nm] (.int .i64 yw):=by
 intro y0;have h1:=h1.up y0;have h2:=h2.up y0;have hc:=hc.plus y0;have XU:=XU.plus y0;obtain⟨V,hV⟩:=ZB (plus w y0);rw[hV]at h1 h2 hc XU ⊢;clear hV;have YA:=Zf h1;have Xg:=Zf h2;have Yo:=Zf hc;have hd2':=Zf XU;clear h1 h2 hc XU;go_enter func125,ntmps125;go_upto_region 1 with (fail)
 obtain⟨X,Y0,hX,⟨zX,ZE⟩,ca⟩:=YO V _ 90;rw[hX];open Z renaming afJ→K4 in exact Iu
theorem iP(p0 n0 c0 p2 n2 c2 p3 n3 c3 p4 n4 c4 p5 n5 c5 p6 n6 c6)(pa:Addr)(n nc:Nat)(act nm yn)(i:Nat)(yw)(w:World)(hi:i<n)(XU:Yg w (pa.add (i*2)) [.string yn,.int .i64 yw])(h1:Kp Zx w 84 #[.agg #[.slice p0 n0 c0,.slice (some pa) n nc,.slice p2 n2 c2,.slice p3 n3 c3,.slice p4 n4 c4,.slice p5 n5 c5,.slice p6 n6 c6],.string nm] (.int .i64 (i:Int))) :
  Kp Zx w 126 #[.agg #[.slice p0 n0 c0,.slice (some pa) n nc,.slice p2 n2 c2,.slice p3 n3 c3,.slice p4 n4 c4,.slice p5 n5 c5,.slice p6 n6 c6,.int .i64 act],.string nm] (.int .i64 yw):=by
 intro y0;have h1:=h1.up y0;have XU:=XU.plus y0;obtain⟨V,hV⟩:=ZB (plus w y0);rw[hV]at h1 XU ⊢;clear hV;have YA:=Zf h1;have hd2':=Zf XU;clear h1 XU;go_enter func126,ntmps126;go_upto_region 1 with (fail)
 obtain⟨X,Y0,hX,⟨zX,ZE⟩,ca⟩:=YO V _ 90;rw[hX];open Z renaming afK→K4 in exact Iu
abbrev Rp(p:Pr)(act:Int):Value:=(.agg #[.slice p.headers.p p.headers.l.length p.headers.cap,.slice p.metas.p p.metas.l.length p.metas.cap,.slice p.states.p p.states.l.length p.states.cap,.slice p.actions.p p.actions.l.length p.actions.cap,.slice p.tables.p p.tables.l.length p.tables.cap,.slice p.control.p p.control.l.length p.control.cap,.slice p.emit.p p.emit.l.length p.emit.cap,.int .i64 act])
theorem xv(p:Pr)(w:World)(ZF:p.In w)(hz:p.sz≤1048576)(act:Int)(hd nm:ByteArray)(q:X5 p (YF p.headers.l hd) nm≠-1) :
  Kp Zx w 125 #[Rp p act,.string hd,.string nm] (.int .i64 (TM p (YF p.headers.l hd) (X5 p (YF p.headers.l hd) nm))):=by
 obtain⟨k,x,i,y,g1,hx,g3,hy⟩:=KI q;have h1:=OM p w ZF hz hd;have h2:=JP p w ZF hz (YF p.headers.l hd) nm;rw[g3]at h2 ⊢;rw[g1]at h1 h2 ⊢;have hm:=Zo hx;obtain⟨pa,hp,hc⟩:=ZF.headers.row k x hx;obtain⟨fa,hfp,hc2⟩:=(ZF.headers.kids x hm).fields.row i y hy;have hc1:Yg w (pa.add (k*2)) [.string x.name,.slice x.fields.p x.fields.l.length x.fields.cap]:=hc;have e:TM p (k:Int) (i:Int)=y.w:=auf;rw[e];rw[hfp]at hc1;rw[hp]at h1 h2;unfold Rp;rw[hp];exact lJ _ _ _ _ _ _ _ _ _ _ _ _ _ _ _ _ _ _ _ _ _ act hd nm _ _ k i _ _ _ _ w (Zi.1 hx).1 (Zi.1 hy).1 hc1 hc2 h1 h2
theorem xx(p:Pr)(w:World)(ZF:p.In w)(hz:p.sz≤1048576)(act:Int)(nm:ByteArray)(q:Xv p.metas.l nm≠-1) :
  Kp Zx w 126 #[Rp p act,.string nm] (.int .i64 (TE p.metas.l (Xv p.metas.l nm))):=by
 obtain⟨i,y,g3,hy⟩:=Nw q;have h1:=JQ p w ZF hz nm;rw[g3]at h1 ⊢;rw[Rz hy];obtain⟨pa,hp,hc⟩:=ZF.metas.row i y hy;rw[hp]at h1;unfold Rp;rw[hp];exact iP _ _ _ _ _ _ _ _ _ _ _ _ _ _ _ _ _ _ _ _ _ act nm _ i _ w (Zi.1 hy).1 hc h1
end Go.Proofs.YtknmeggfokpbjaaGreat

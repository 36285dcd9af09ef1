/-
  WHAT IS PROVED HERE: a part of the proof (made narrower and merged by program; the parts: Vp Zf Vs).
-/
import Derived.Test.YtheaknidbcbneaaGreatM24
import Derived.Test.YtheaknidbcbneaaGreatM19
set_option maxRecDepth 100000
set_option maxHeartbeats 8000000
set_option linter.all false
namespace Go.Proofs.YtheaknidbcbneaaGreat
open Go.RowKit Go.Proofs.Tryz
open Below renaming refl→Zc
open Bool renaming true_and→Ze
open Ending renaming returned→Zf
open Lib renaming hid→Zg
open List renaming getElem?_eq_some_iff→Zj,mem_of_getElem?→Zl
open Nat renaming le_refl→Zp
open Go.Proofs.Tryz renaming prog→Zr
open Value renaming bool→Zs
open Go.RowKit
theorem Vi(V:World)(c d f g:Array Value)(t u s r:TypeId):∃W y,(((V.alloc (.cells c t)).alloc (.cells d u)).alloc (.cells f s)).alloc (.cells g r)=plus W y∧(∃z,W=plus V z)∧(∀o v,c[o]?=v→∀y,(plus W y).cell? ⟨V.heap.size,o,none⟩=v)∧(∀o v,d[o]?=v→∀y,(plus W y).cell? ⟨V.heap.size+1,o,none⟩=v)∧(∀o v,f[o]?=v→∀y,(plus W y).cell? ⟨V.heap.size+1+1,o,none⟩=v)∧(∀o v,g[o]?=v→∀y,(plus W y).cell? ⟨V.heap.size+1+1+1,o,none⟩=v)∧(∀y o,(plus W y).frozen? ⟨V.heap.size+1+1+1,o,none⟩=false):=by
 obtain⟨W,hW,hB,hs,ca,cb,cc,fa,fb,fc⟩:=WL V c d f t u s;obtain⟨X,hX,Yz,ZD,cg,fg⟩:=Vx W g r;have Yq:W.heap.size=V.heap.size+1+1+1:=by omega
 rw[←hW,←hX];obtain⟨z,hz⟩:=ZS hB;obtain⟨z2,Ym⟩:=ZS Yz;refine⟨X,⟨#[],X.drawn⟩,(ZK X).symm,⟨_,by rw[Ym,hz,Zx]⟩,?_,?_,?_,?_,?_⟩
 ·intro o v h y;rw[Ym,Zx];exact ca o v h _
 ·intro o v h y;rw[Ym,Zx];exact cb o v h _
 ·intro o v h y;rw[Ym,Zx];exact cc o v h _
 ·intro o v h y;rw[←Yq];exact cg o v h y
 ·intro y o;rw[←Yq];exact fg y o
theorem Fk(e x y:Ex)(s t:Ty)(w:World)(ZQ:e.In w)(hx:e.args[0]?=some x)(hy:e.args[1]?=some y)(cx:s.fr=true→x.chain=true)(cy:t.fr=true→y.chain=true)(hww:Z7 s=0→Z7 t=0→wrap64 (128-t.w)=128-t.w∧(s.w+t.w≤128→wrap64 (s.w+t.w)=s.w+t.w)) :
  Ye Zr w 112 #[e.val,s.v,t.v] (Z5 (Ua e.op x.free y.free s t).1 (Ua e.op x.free y.free s t).2.v):=by
 intro y0;have kc:=(Fc e x y s t w ZQ hx hy cx cy).up y0;clear ZQ hx hy cx cy;obtain⟨V,hV⟩:=Zv (plus w y0);rw[hV]at kc ⊢;clear hV;have ks:=Rq s V;have kt:=Rq t V;obtain⟨n,hn⟩:=Zv x.free;obtain⟨m,hm⟩:=Zv y.free;rw[hn,hm]at kc ⊢;obtain⟨op,⟨lw,lh,ll⟩,hd,nm,eh,el,ep,ec,eargs⟩:=e;simp only[Ex.val,Ex.cells,Ex.op,Ex.lit,Ex.head,Ex.name,Ex.hi,Ex.lo,Ex.p,Ex.args,Ex.cap]at kc ⊢;obtain⟨M,hM⟩:=Zv eargs.length;rw[hM]at kc ⊢;obtain⟨C,hC⟩:=Zv (Xv n m s t);rw[hC]at kc;obtain⟨PP,hP⟩:=Zv (Ua op n m s t);rw[hP];unfold Ua at hP;rw[hC]at hP;obtain⟨C1,C2⟩:=C;obtain⟨sw,st,sf⟩:=s;obtain⟨tw,tt,tf⟩:=t;simp only[Ty.v]at kc ks kt ⊢;have XU:=Zg hP;have kc':=Zg kc;have ks':=Zg ks;have kt':=Zg kt;have UK:=Zg hww;clear hM hn hm hC hP kc ks kt hww;by_cases h11:op=11
 ·subst h11
  cases st with
  | true =>
   obtain rfl:PP=(9,YV):=by rw[←XU.out];simp[Z7]
   simp only[Z5,show ¬((9:Int)=0) by decide,if_false];rw[show (if Z7 ⟨sw,true,sf⟩=0 then Zf (.int .i64 sw) else Yl (Z7 ⟨sw,true,sf⟩))=Yl 9 from rfl]at ks';go_enter func112,ntmps112;go_wp2_with fail;obtain⟨X,Y0,hX,⟨zX,hzX⟩,ca,cb,cc,cd,fd⟩:=Vi V _ _ _ _ 65 101 101 101;rw[hX];have c0:=ca 0 _ rfl;have c1:=ca 1 _ rfl;have c2:=ca 2 _ rfl;have c3:=ca 3 _ rfl;have c4:=ca 4 _ rfl;have c5:=ca 5 _ rfl;have c6:=ca 6 _ rfl;have c7:=ca 7 _ rfl;have c8:=ca 8 _ rfl;have s0:=cb 0 _ rfl;have s1:=cb 1 _ rfl;have s2:=cb 2 _ rfl;have t0:=cc 0 _ rfl;have t1:=cc 1 _ rfl;have t2:=cc 2 _ rfl;have hR:=Zg (YM ⟨zX,hzX⟩ (show V.heap.size≤V.heap.size+1+1+1 by omega) cd fd);have kc2:=Zg (Yn hzX kc'.out);have ks2:=Zg (Yn hzX ks'.out);have kt2:=Zg (Yn hzX kt'.out);have ZO:=Zg hzX;clear hX ca cb cc cd fd hzX kc' ks' kt';have ksd:=Zg (ks2.out ⟨Y0.blocks,Y0.draws+1⟩);clear kc2 ks2 kt2 hR;go_region_dies;all_goals
    refine ksd.out.mono ?_;rintro r w' ⟨rfl,x1,rfl⟩;exact⟨rfl,rfl,by rw[ZO.out,Zx];exact⟨_,rfl⟩⟩
  | false =>
   cases sf with
   | true =>
    obtain rfl:PP=(10,YV):=by rw[←XU.out];simp[Z7]
    simp only[Z5,show ¬((10:Int)=0) by decide,if_false];rw[show (if Z7 ⟨sw,false,true⟩=0 then Zf (.int .i64 sw) else Yl (Z7 ⟨sw,false,true⟩))=Yl 10 from rfl]at ks';go_enter func112,ntmps112;go_wp2_with fail;obtain⟨X,Y0,hX,⟨zX,hzX⟩,ca,cb,cc,cd,fd⟩:=Vi V _ _ _ _ 65 101 101 101;rw[hX];have c0:=ca 0 _ rfl;have c1:=ca 1 _ rfl;have c2:=ca 2 _ rfl;have c3:=ca 3 _ rfl;have c4:=ca 4 _ rfl;have c5:=ca 5 _ rfl;have c6:=ca 6 _ rfl;have c7:=ca 7 _ rfl;have c8:=ca 8 _ rfl;have s0:=cb 0 _ rfl;have s1:=cb 1 _ rfl;have s2:=cb 2 _ rfl;have t0:=cc 0 _ rfl;have t1:=cc 1 _ rfl;have t2:=cc 2 _ rfl;have hR:=Zg (YM ⟨zX,hzX⟩ (show V.heap.size≤V.heap.size+1+1+1 by omega) cd fd);have kc2:=Zg (Yn hzX kc'.out);have ks2:=Zg (Yn hzX ks'.out);have kt2:=Zg (Yn hzX kt'.out);have ZO:=Zg hzX;clear hX ca cb cc cd fd hzX kc' ks' kt';have ksd:=Zg (ks2.out ⟨Y0.blocks,Y0.draws+1⟩);clear kc2 ks2 kt2 hR;go_region_dies;all_goals
     refine ksd.out.mono ?_;rintro r w' ⟨rfl,x1,rfl⟩;exact⟨rfl,rfl,by rw[ZO.out,Zx];exact⟨_,rfl⟩⟩
   | false =>
    cases tt with
    | true =>
     obtain rfl:PP=(9,YV):=by rw[←XU.out];simp[Z7]
     simp only[Z5,show ¬((9:Int)=0) by decide,if_false];rw[show (if Z7 ⟨sw,false,false⟩=0 then Zf (.int .i64 sw) else Yl (Z7 ⟨sw,false,false⟩))=.returned (.int .i64 sw) from rfl]at ks';rw[show (if Z7 ⟨tw,true,tf⟩=0 then Zf (.int .i64 tw) else Yl (Z7 ⟨tw,true,tf⟩))=Yl 9 from rfl]at kt';go_enter func112,ntmps112;go_wp2_with fail;obtain⟨X,Y0,hX,⟨zX,hzX⟩,ca,cb,cc,cd,fd⟩:=Vi V _ _ _ _ 65 101 101 101;rw[hX];have c0:=ca 0 _ rfl;have c1:=ca 1 _ rfl;have c2:=ca 2 _ rfl;have c3:=ca 3 _ rfl;have c4:=ca 4 _ rfl;have c5:=ca 5 _ rfl;have c6:=ca 6 _ rfl;have c7:=ca 7 _ rfl;have c8:=ca 8 _ rfl;have s0:=cb 0 _ rfl;have s1:=cb 1 _ rfl;have s2:=cb 2 _ rfl;have t0:=cc 0 _ rfl;have t1:=cc 1 _ rfl;have t2:=cc 2 _ rfl;have hR:=Zg (YM ⟨zX,hzX⟩ (show V.heap.size≤V.heap.size+1+1+1 by omega) cd fd);have kc2:=Zg (Yn hzX kc'.out);have ks2:=Zg (Yn hzX ks'.out);have kt2:=Zg (Yn hzX kt'.out);have ZO:=Zg hzX;clear hX ca cb cc cd fd hzX kc' ks' kt';refine WU 3 (by kernel_rfl) (by kernel_rfl) ?_;simp only[List.take_succ_cons,List.take_zero,List.drop_succ_cons,List.drop_zero];repeat (go_big_quiet_step (first|(with_reducible exact ks2.out _)))
     refine wpQuiet_nil ?_;rintro _ ⟨v1,rfl⟩;go_wp2_with fail;refine (kt2.out v1).mono ?_;rintro r w' ⟨rfl,v2,rfl⟩;clear ks2 kt2 kc2;go_wp2;exact⟨rfl,rfl,by rw[ZO.out,Zx];exact⟨_,rfl⟩⟩
    | false =>
     cases tf with
     | true =>
      obtain rfl:PP=(10,YV):=by rw[←XU.out];simp[Z7]
      simp only[Z5,show ¬((10:Int)=0) by decide,if_false];rw[show (if Z7 ⟨sw,false,false⟩=0 then Zf (.int .i64 sw) else Yl (Z7 ⟨sw,false,false⟩))=.returned (.int .i64 sw) from rfl]at ks';rw[show (if Z7 ⟨tw,false,true⟩=0 then Zf (.int .i64 tw) else Yl (Z7 ⟨tw,false,true⟩))=Yl 10 from rfl]at kt';go_enter func112,ntmps112;go_wp2_with fail;obtain⟨X,Y0,hX,⟨zX,hzX⟩,ca,cb,cc,cd,fd⟩:=Vi V _ _ _ _ 65 101 101 101;rw[hX];have c0:=ca 0 _ rfl;have c1:=ca 1 _ rfl;have c2:=ca 2 _ rfl;have c3:=ca 3 _ rfl;have c4:=ca 4 _ rfl;have c5:=ca 5 _ rfl;have c6:=ca 6 _ rfl;have c7:=ca 7 _ rfl;have c8:=ca 8 _ rfl;have s0:=cb 0 _ rfl;have s1:=cb 1 _ rfl;have s2:=cb 2 _ rfl;have t0:=cc 0 _ rfl;have t1:=cc 1 _ rfl;have t2:=cc 2 _ rfl;have hR:=Zg (YM ⟨zX,hzX⟩ (show V.heap.size≤V.heap.size+1+1+1 by omega) cd fd);have kc2:=Zg (Yn hzX kc'.out);have ks2:=Zg (Yn hzX ks'.out);have kt2:=Zg (Yn hzX kt'.out);have ZO:=Zg hzX;clear hX ca cb cc cd fd hzX kc' ks' kt';refine WU 3 (by kernel_rfl) (by kernel_rfl) ?_;simp only[List.take_succ_cons,List.take_zero,List.drop_succ_cons,List.drop_zero];repeat (go_big_quiet_step (first|(with_reducible exact ks2.out _)))
      refine wpQuiet_nil ?_;rintro _ ⟨v1,rfl⟩;go_wp2_with fail;refine (kt2.out v1).mono ?_;rintro r w' ⟨rfl,v2,rfl⟩;clear ks2 kt2 kc2;go_wp2;exact⟨rfl,rfl,by rw[ZO.out,Zx];exact⟨_,rfl⟩⟩
     | false =>
      have hw2:=UK.out rfl rfl;simp only at hw2;rw[show (if Z7 ⟨sw,false,false⟩=0 then Zf (.int .i64 sw) else Yl (Z7 ⟨sw,false,false⟩))=.returned (.int .i64 sw) from rfl]at ks';rw[show (if Z7 ⟨tw,false,false⟩=0 then Zf (.int .i64 tw) else Yl (Z7 ⟨tw,false,false⟩))=.returned (.int .i64 tw) from rfl]at kt';by_cases q:128<sw+tw
      ·obtain rfl:PP=(5,YV):=by rw[←XU.out];simp[Z7,q]
       simp only[Z5,show ¬((5:Int)=0) by decide,if_false];have q2:¬sw≤128-tw:=by omega
       have hw3:=Zg hw2.1;clear hw2;go_enter func112,ntmps112;go_wp2_with fail;obtain⟨X,Y0,hX,⟨zX,hzX⟩,ca,cb,cc,cd,fd⟩:=Vi V _ _ _ _ 65 101 101 101;rw[hX];have c0:=ca 0 _ rfl;have c1:=ca 1 _ rfl;have c2:=ca 2 _ rfl;have c3:=ca 3 _ rfl;have c4:=ca 4 _ rfl;have c5:=ca 5 _ rfl;have c6:=ca 6 _ rfl;have c7:=ca 7 _ rfl;have c8:=ca 8 _ rfl;have s0:=cb 0 _ rfl;have s1:=cb 1 _ rfl;have s2:=cb 2 _ rfl;have t0:=cc 0 _ rfl;have t1:=cc 1 _ rfl;have t2:=cc 2 _ rfl;have hR:=Zg (YM ⟨zX,hzX⟩ (show V.heap.size≤V.heap.size+1+1+1 by omega) cd fd);have kc2:=Zg (Yn hzX kc'.out);have ks2:=Zg (Yn hzX ks'.out);have kt2:=Zg (Yn hzX kt'.out);have ZO:=Zg hzX;clear hX ca cb cc cd fd hzX kc' ks' kt';refine WU 3 (by kernel_rfl) (by kernel_rfl) ?_;simp only[List.take_succ_cons,List.take_zero,List.drop_succ_cons,List.drop_zero];repeat (go_big_quiet_step (first|(with_reducible exact ks2.out _)))
       refine wpQuiet_nil ?_;rintro _ ⟨v1,rfl⟩;go_wp2_with fail;refine (kt2.out v1).mono ?_;rintro r w' ⟨rfl,v2,rfl⟩;clear ks2 kt2 kc2;go_wp2_with fail;rw[hw3.out,show decide (sw≤128-tw)=false by simpa using q2];refine (W6 X 5 v2).mono ?_;rintro r w' ⟨rfl,x9,rfl⟩;go_wp2;exact⟨rfl,rfl,by rw[ZO.out,Zx,Zx];exact⟨_,rfl⟩⟩
      ·obtain rfl:PP=(0,⟨sw+tw,false,false⟩):=by rw[←XU.out];simp[Z7,q,YQ]
       simp only[Z5,if_pos];have q2:sw≤128-tw:=by omega
       have hw3:=Zg hw2.1;have hw4:=Zg (hw2.2 (by omega));clear hw2;go_enter func112,ntmps112;go_wp2_with fail;obtain⟨X,Y0,hX,⟨zX,hzX⟩,ca,cb,cc,cd,fd⟩:=Vi V _ _ _ _ 65 101 101 101;rw[hX];have c0:=ca 0 _ rfl;have c1:=ca 1 _ rfl;have c2:=ca 2 _ rfl;have c3:=ca 3 _ rfl;have c4:=ca 4 _ rfl;have c5:=ca 5 _ rfl;have c6:=ca 6 _ rfl;have c7:=ca 7 _ rfl;have c8:=ca 8 _ rfl;have s0:=cb 0 _ rfl;have s1:=cb 1 _ rfl;have s2:=cb 2 _ rfl;have t0:=cc 0 _ rfl;have t1:=cc 1 _ rfl;have t2:=cc 2 _ rfl;have hR:=Zg (YM ⟨zX,hzX⟩ (show V.heap.size≤V.heap.size+1+1+1 by omega) cd fd);have kc2:=Zg (Yn hzX kc'.out);have ks2:=Zg (Yn hzX ks'.out);have kt2:=Zg (Yn hzX kt'.out);have ZO:=Zg hzX;clear hX ca cb cc cd fd hzX kc' ks' kt';refine WU 3 (by kernel_rfl) (by kernel_rfl) ?_;simp only[List.take_succ_cons,List.take_zero,List.drop_succ_cons,List.drop_zero];repeat (go_big_quiet_step (first|(with_reducible exact ks2.out _)))
       refine wpQuiet_nil ?_;rintro _ ⟨v1,rfl⟩;go_wp2_with fail;refine (kt2.out v1).mono ?_;rintro r w' ⟨rfl,v2,rfl⟩;clear ks2 kt2 kc2;go_wp2_with fail;rw[hw3.out,show decide (sw≤128-tw)=true by simpa using q2];refine (XE X 5 v2).mono ?_;rintro r w' ⟨rfl,x5,rfl⟩;rw[Zx];obtain⟨Y5,hY5⟩:=Zv ((⟨ZA.blocks v2++ZA.blocks x5,ZA.draws x5⟩:ZA):ZA);rw[hY5];clear hY5;go_wp2_with fail;rw[hw4.out];refine (Uv (sw+tw) X Y5).mono ?_;rintro r w' ⟨rfl,x6,rfl⟩;rw[Zx];obtain⟨Y6,hY6⟩:=Zv ((⟨ZA.blocks Y5++ZA.blocks x6,ZA.draws x6⟩:ZA):ZA);rw[hY6];clear hY6;simp only[Ty.v,YQ];have ZI:=hR.out Y6;have r0:=ZI.r0;have r1:=ZI.r1;have r2:=ZI.r2;have rf:=ZI.rf;have YS:=Zg ZI;clear ZI hR;go_wp2;obtain⟨Z,hZ,g0,g1,g2,hV⟩:=YS.out.set ⟨(sw+tw),false,false⟩;simp only at hZ;rw[hZ];clear hZ;exact bodyPost_ret (v:=.agg #[.int .i64 (sw+tw),.bool false,.bool false]) (by simp[results,Tryz.results112,go_sem,g0,g1,g2]) rfl ⟨rfl,hV⟩
 by_cases TZ:op=25∨op=26
 ·rcases TZ with rfl|rfl
  all_goals
   cases st with
   | true =>
    cases tt with
    | true =>
     obtain rfl:PP=(0,⟨sw,true,sf⟩):=by rw[←XU.out];simp
     simp only[Z5,if_pos];clear XU UK;go_enter func112,ntmps112;go_wp2_with fail;obtain⟨X,Y0,hX,⟨zX,hzX⟩,ca,cb,cc,cd,fd⟩:=Vi V _ _ _ _ 65 101 101 101;rw[hX];have c0:=ca 0 _ rfl;have c1:=ca 1 _ rfl;have c2:=ca 2 _ rfl;have c3:=ca 3 _ rfl;have c4:=ca 4 _ rfl;have c5:=ca 5 _ rfl;have c6:=ca 6 _ rfl;have c7:=ca 7 _ rfl;have c8:=ca 8 _ rfl;have s0:=cb 0 _ rfl;have s1:=cb 1 _ rfl;have s2:=cb 2 _ rfl;have t0:=cc 0 _ rfl;have t1:=cc 1 _ rfl;have t2:=cc 2 _ rfl;have hR:=Zg (YM ⟨zX,hzX⟩ (show V.heap.size≤V.heap.size+1+1+1 by omega) cd fd);have kc2:=Zg (Yn hzX kc'.out);have ks2:=Zg (Yn hzX ks'.out);have kt2:=Zg (Yn hzX kt'.out);have ZO:=Zg hzX;clear hX ca cb cc cd fd hzX kc' ks' kt';clear kc2 ks2 kt2;refine (XE X 9 Y0).mono ?_;rintro r w' ⟨rfl,x5,rfl⟩;rw[Zx];obtain⟨Y5,hY5⟩:=Zv ((⟨ZA.blocks Y0++ZA.blocks x5,ZA.draws x5⟩:ZA):ZA);rw[hY5];clear hY5;have ZI:=hR.out Y5;have r0:=ZI.r0;have r1:=ZI.r1;have r2:=ZI.r2;have rf:=ZI.rf;have YS:=Zg ZI;clear ZI hR;go_wp2;obtain⟨Z,hZ,g0,g1,g2,hV⟩:=YS.out.set ⟨sw,true,sf⟩;simp only at hZ;rw[hZ];clear hZ;exact bodyPost_ret (v:=.agg #[.int .i64 sw,.bool true,.bool sf]) (by simp[results,Tryz.results112,go_sem,g0,g1,g2]) rfl ⟨rfl,hV⟩
    | false =>
     obtain rfl:PP=(9,YV):=by rw[←XU.out];simp
     simp only[Z5,show ¬((9:Int)=0) by decide,if_false];clear XU UK;go_enter func112,ntmps112;go_wp2_with fail;obtain⟨X,Y0,hX,⟨zX,hzX⟩,ca,cb,cc,cd,fd⟩:=Vi V _ _ _ _ 65 101 101 101;rw[hX];have c0:=ca 0 _ rfl;have c1:=ca 1 _ rfl;have c2:=ca 2 _ rfl;have c3:=ca 3 _ rfl;have c4:=ca 4 _ rfl;have c5:=ca 5 _ rfl;have c6:=ca 6 _ rfl;have c7:=ca 7 _ rfl;have c8:=ca 8 _ rfl;have s0:=cb 0 _ rfl;have s1:=cb 1 _ rfl;have s2:=cb 2 _ rfl;have t0:=cc 0 _ rfl;have t1:=cc 1 _ rfl;have t2:=cc 2 _ rfl;have hR:=Zg (YM ⟨zX,hzX⟩ (show V.heap.size≤V.heap.size+1+1+1 by omega) cd fd);have kc2:=Zg (Yn hzX kc'.out);have ks2:=Zg (Yn hzX ks'.out);have kt2:=Zg (Yn hzX kt'.out);have ZO:=Zg hzX;clear hX ca cb cc cd fd hzX kc' ks' kt';clear kc2 ks2 kt2 hR;refine (W6 X 9 Y0).mono ?_;rintro r w' ⟨rfl,x5,rfl⟩;go_wp2;exact⟨rfl,rfl,by rw[ZO.out,Zx,Zx];exact⟨_,rfl⟩⟩
   | false =>
    obtain rfl:PP=(9,YV):=by rw[←XU.out];simp
    simp only[Z5,show ¬((9:Int)=0) by decide,if_false];clear XU UK;go_enter func112,ntmps112;go_wp2_with fail;obtain⟨X,Y0,hX,⟨zX,hzX⟩,ca,cb,cc,cd,fd⟩:=Vi V _ _ _ _ 65 101 101 101;rw[hX];have c0:=ca 0 _ rfl;have c1:=ca 1 _ rfl;have c2:=ca 2 _ rfl;have c3:=ca 3 _ rfl;have c4:=ca 4 _ rfl;have c5:=ca 5 _ rfl;have c6:=ca 6 _ rfl;have c7:=ca 7 _ rfl;have c8:=ca 8 _ rfl;have s0:=cb 0 _ rfl;have s1:=cb 1 _ rfl;have s2:=cb 2 _ rfl;have t0:=cc 0 _ rfl;have t1:=cc 1 _ rfl;have t2:=cc 2 _ rfl;have hR:=Zg (YM ⟨zX,hzX⟩ (show V.heap.size≤V.heap.size+1+1+1 by omega) cd fd);have kc2:=Zg (Yn hzX kc'.out);have ks2:=Zg (Yn hzX ks'.out);have kt2:=Zg (Yn hzX kt'.out);have ZO:=Zg hzX;clear hX ca cb cc cd fd hzX kc' ks' kt';clear kc2 ks2 kt2 hR;refine (W6 X 9 Y0).mono ?_;rintro r w' ⟨rfl,x5,rfl⟩;go_wp2;exact⟨rfl,rfl,by rw[ZO.out,Zx,Zx];exact⟨_,rfl⟩⟩
 by_cases hcmp:19≤op∧op≤24
 ·obtain h6:op=19∨op=20∨op=21∨op=22∨op=23∨op=24:=by omega
  clear hcmp h11 TZ;rcases h6 with rfl|rfl|rfl|rfl|rfl|rfl
  all_goals
   by_cases z:C1=0
   ·subst z
    obtain rfl:PP=(0,⟨0,true,false⟩):=by rw[←XU.out];simp
    simp only[Z5,if_pos]at kc' ⊢;clear XU UK;go_enter func112,ntmps112;go_wp2_with fail;obtain⟨X,Y0,hX,⟨zX,hzX⟩,ca,cb,cc,cd,fd⟩:=Vi V _ _ _ _ 65 101 101 101;rw[hX];have c0:=ca 0 _ rfl;have c1:=ca 1 _ rfl;have c2:=ca 2 _ rfl;have c3:=ca 3 _ rfl;have c4:=ca 4 _ rfl;have c5:=ca 5 _ rfl;have c6:=ca 6 _ rfl;have c7:=ca 7 _ rfl;have c8:=ca 8 _ rfl;have s0:=cb 0 _ rfl;have s1:=cb 1 _ rfl;have s2:=cb 2 _ rfl;have t0:=cc 0 _ rfl;have t1:=cc 1 _ rfl;have t2:=cc 2 _ rfl;have hR:=Zg (YM ⟨zX,hzX⟩ (show V.heap.size≤V.heap.size+1+1+1 by omega) cd fd);have kc2:=Zg (Yn hzX kc'.out);have ks2:=Zg (Yn hzX ks'.out);have kt2:=Zg (Yn hzX kt'.out);have ZO:=Zg hzX;clear hX ca cb cc cd fd hzX kc' ks' kt';refine (kc2.out Y0).mono ?_;rintro r w' ⟨rfl,x5,rfl⟩;clear kc2 ks2 kt2;go_wp2_with fail;refine (O7 X x5).mono ?_;rintro r w' ⟨rfl,x6,rfl⟩;rw[Zx];obtain⟨Y6,hY6⟩:=Zv ((⟨ZA.blocks x5++ZA.blocks x6,ZA.draws x6⟩:ZA):ZA);rw[hY6];clear hY6;simp only[Ty.v];have ZI:=hR.out Y6;have r0:=ZI.r0;have r1:=ZI.r1;have r2:=ZI.r2;have rf:=ZI.rf;have YS:=Zg ZI;clear ZI hR;go_wp2;obtain⟨Z,hZ,g0,g1,g2,hV⟩:=YS.out.set ⟨0,true,false⟩;simp only at hZ;rw[hZ];clear hZ;exact bodyPost_ret (v:=.agg #[.int .i64 0,.bool true,.bool false]) (by simp[results,Tryz.results112,go_sem,g0,g1,g2]) rfl ⟨rfl,hV⟩
   ·obtain rfl:PP=(C1,YV):=by rw[←XU.out];simp[z]
    simp only[Z5,if_neg z]at kc' ⊢;clear XU UK;go_enter func112,ntmps112;go_wp2_with fail;obtain⟨X,Y0,hX,⟨zX,hzX⟩,ca,cb,cc,cd,fd⟩:=Vi V _ _ _ _ 65 101 101 101;rw[hX];have c0:=ca 0 _ rfl;have c1:=ca 1 _ rfl;have c2:=ca 2 _ rfl;have c3:=ca 3 _ rfl;have c4:=ca 4 _ rfl;have c5:=ca 5 _ rfl;have c6:=ca 6 _ rfl;have c7:=ca 7 _ rfl;have c8:=ca 8 _ rfl;have s0:=cb 0 _ rfl;have s1:=cb 1 _ rfl;have s2:=cb 2 _ rfl;have t0:=cc 0 _ rfl;have t1:=cc 1 _ rfl;have t2:=cc 2 _ rfl;have hR:=Zg (YM ⟨zX,hzX⟩ (show V.heap.size≤V.heap.size+1+1+1 by omega) cd fd);have kc2:=Zg (Yn hzX kc'.out);have ks2:=Zg (Yn hzX ks'.out);have kt2:=Zg (Yn hzX kt'.out);have ZO:=Zg hzX;clear hX ca cb cc cd fd hzX kc' ks' kt';refine (kc2.out Y0).mono ?_;rintro r w' ⟨rfl,x5,rfl⟩;clear kc2 ks2 kt2 hR;go_wp2;exact⟨rfl,rfl,by rw[ZO.out,Zx];exact⟨_,rfl⟩⟩
 have o11:(op==11)=false:=by simpa using h11
 have o19:(op==19)=false:=beq_eq_false_iff_ne.2 (show op≠19 by omega);have o20:(op==20)=false:=beq_eq_false_iff_ne.2 (show op≠20 by omega);have o21:(op==21)=false:=beq_eq_false_iff_ne.2 (show op≠21 by omega);have o22:(op==22)=false:=beq_eq_false_iff_ne.2 (show op≠22 by omega);have o23:(op==23)=false:=beq_eq_false_iff_ne.2 (show op≠23 by omega);have o24:(op==24)=false:=beq_eq_false_iff_ne.2 (show op≠24 by omega);have o25:(op==25)=false:=beq_eq_false_iff_ne.2 (show op≠25 by omega);have o26:(op==26)=false:=beq_eq_false_iff_ne.2 (show op≠26 by omega);by_cases z:C1=0
 ·subst z
  obtain rfl:PP=(0,⟨C2,false,false⟩):=by rw[←XU.out];simp[h11,TZ,hcmp,YQ]
  simp only[Z5,if_pos]at kc' ⊢;clear XU UK h11 TZ hcmp;go_enter func112,ntmps112;go_wp2_with fail;obtain⟨X,Y0,hX,⟨zX,hzX⟩,ca,cb,cc,cd,fd⟩:=Vi V _ _ _ _ 65 101 101 101;rw[hX];have c0:=ca 0 _ rfl;have c1:=ca 1 _ rfl;have c2:=ca 2 _ rfl;have c3:=ca 3 _ rfl;have c4:=ca 4 _ rfl;have c5:=ca 5 _ rfl;have c6:=ca 6 _ rfl;have c7:=ca 7 _ rfl;have c8:=ca 8 _ rfl;have s0:=cb 0 _ rfl;have s1:=cb 1 _ rfl;have s2:=cb 2 _ rfl;have t0:=cc 0 _ rfl;have t1:=cc 1 _ rfl;have t2:=cc 2 _ rfl;have hR:=Zg (YM ⟨zX,hzX⟩ (show V.heap.size≤V.heap.size+1+1+1 by omega) cd fd);have kc2:=Zg (Yn hzX kc'.out);have ks2:=Zg (Yn hzX ks'.out);have kt2:=Zg (Yn hzX kt'.out);have ZO:=Zg hzX;clear hX ca cb cc cd fd hzX kc' ks' kt';refine (kc2.out Y0).mono ?_;rintro r w' ⟨rfl,x5,rfl⟩;clear kc2 ks2 kt2;go_wp2_with fail;refine (Uv C2 X x5).mono ?_;rintro r w' ⟨rfl,x6,rfl⟩;rw[Zx];obtain⟨Y6,hY6⟩:=Zv ((⟨ZA.blocks x5++ZA.blocks x6,ZA.draws x6⟩:ZA):ZA);rw[hY6];clear hY6;simp only[Ty.v,YQ];have ZI:=hR.out Y6;have r0:=ZI.r0;have r1:=ZI.r1;have r2:=ZI.r2;have rf:=ZI.rf;have YS:=Zg ZI;clear ZI hR;go_wp2;obtain⟨Z,hZ,g0,g1,g2,hV⟩:=YS.out.set ⟨C2,false,false⟩;simp only at hZ;rw[hZ];clear hZ;exact bodyPost_ret (v:=.agg #[.int .i64 C2,.bool false,.bool false]) (by simp[results,Tryz.results112,go_sem,g0,g1,g2]) rfl ⟨rfl,hV⟩
 ·obtain rfl:PP=(C1,YV):=by rw[←XU.out];simp[h11,TZ,z]
  simp only[Z5,if_neg z]at kc' ⊢;clear XU UK h11 TZ hcmp;go_enter func112,ntmps112;go_wp2_with fail;obtain⟨X,Y0,hX,⟨zX,hzX⟩,ca,cb,cc,cd,fd⟩:=Vi V _ _ _ _ 65 101 101 101;rw[hX];have c0:=ca 0 _ rfl;have c1:=ca 1 _ rfl;have c2:=ca 2 _ rfl;have c3:=ca 3 _ rfl;have c4:=ca 4 _ rfl;have c5:=ca 5 _ rfl;have c6:=ca 6 _ rfl;have c7:=ca 7 _ rfl;have c8:=ca 8 _ rfl;have s0:=cb 0 _ rfl;have s1:=cb 1 _ rfl;have s2:=cb 2 _ rfl;have t0:=cc 0 _ rfl;have t1:=cc 1 _ rfl;have t2:=cc 2 _ rfl;have hR:=Zg (YM ⟨zX,hzX⟩ (show V.heap.size≤V.heap.size+1+1+1 by omega) cd fd);have kc2:=Zg (Yn hzX kc'.out);have ks2:=Zg (Yn hzX ks'.out);have kt2:=Zg (Yn hzX kt'.out);have ZO:=Zg hzX;clear hX ca cb cc cd fd hzX kc' ks' kt';refine (kc2.out Y0).mono ?_;rintro r w' ⟨rfl,x5,rfl⟩;clear kc2 ks2 kt2 hR;go_wp2;exact⟨rfl,rfl,by rw[ZO.out,Zx];exact⟨_,rfl⟩⟩
theorem N9(V:World)(c d f g:Array Value)(t u s r:TypeId):∃W y,(((V.alloc (.cells c t)).alloc (.cells d u)).alloc (.cells f s)).alloc (.cells g r)=plus W y∧(∃z,W=plus V z) ∧
  (∀o v,c[o]?=v→∀y,(plus W y).cell? ⟨V.heap.size,o,none⟩=v) ∧
  (∀o v,d[o]?=v→∀y,(plus W y).cell? ⟨V.heap.size+1,o,none⟩=v) ∧
  (∀o v,f[o]?=v→∀y,(plus W y).cell? ⟨V.heap.size+1+1,o,none⟩=v) ∧
  (∀o v,g[o]?=v→∀y,(plus W y).cell? ⟨V.heap.size+1+1+1,o,none⟩=v):=by
 have h1:(V.alloc (.cells c t)).heap.size=V.heap.size+1:=by simp
 have h2:((V.alloc (.cells c t)).alloc (.cells d u)).heap.size=V.heap.size+1+1:=by simp
 have h3:(((V.alloc (.cells c t)).alloc (.cells d u)).alloc (.cells f s)).heap.size=V.heap.size+1+1+1:=by simp
 have hs:((((V.alloc (.cells c t)).alloc (.cells d u)).alloc (.cells f s)).alloc (.cells g r)).heap.size=V.heap.size+1+1+1+1:=by simp
 have hB:Below V.heap.size V ((((V.alloc (.cells c t)).alloc (.cells d u)).alloc (.cells f s)).alloc (.cells g r)):=(((((Zc _ _).alloc (Zp _) _).alloc (by omega) _).alloc (by omega) _).alloc (by omega) _);exact⟨_,⟨#[],_⟩,(ZK _).symm,ZS hB,
  fun o v e=>Yb (by omega) ((XZ _ _ _ o (by omega)).trans ((XZ _ _ _ o (by omega)).trans ((XZ _ _ _ o (by omega)).trans ((Z4 V c t _ o rfl).trans e)))),
  fun o v e=>Yb (by omega) ((XZ _ _ _ o (by omega)).trans ((XZ _ _ _ o (by omega)).trans ((Z4 _ d u _ o h1.symm).trans e))),
  fun o v e=>Yb (by omega) ((XZ _ _ _ o (by omega)).trans ((Z4 _ f s _ o h2.symm).trans e)),
  fun o v e=>Yb (by omega) ((Z4 _ g r _ o h3.symm).trans e)⟩
structure TM (p:Pr) (act:Int) (b1 b2 b3:Nat) (w:World):Prop where
 pc:∀j v,[.slice p.headers.p p.headers.l.length p.headers.cap,.slice p.metas.p p.metas.l.length p.metas.cap,.slice p.states.p p.states.l.length p.states.cap,.slice p.actions.p p.actions.l.length p.actions.cap,.slice p.tables.p p.tables.l.length p.tables.cap,.slice p.control.p p.control.l.length p.control.cap,.slice p.emit.p p.emit.l.length p.emit.cap][j]?=some v→w.cell? ⟨b1,j,none⟩=some v
 ac:w.cell? ⟨b2,0,none⟩=some (.int .i64 act)
 tc:w.cell? ⟨b3,0,none⟩=some (.func (.func 152) #[] #[.pointer (some ⟨b1,0,none⟩),.pointer (some ⟨b2,0,none⟩),.pointer (some ⟨b3,0,none⟩)])
theorem TM.plus{p:Pr}{act:Int}{b1 b2 b3:Nat}{w:World}(h:TM p act b1 b2 b3 w)(x:ZA):TM p act b1 b2 b3 (plus w x) :=
 ⟨fun j v hj=>ZC (h.pc j v hj) x,ZC h.ac x,ZC h.tc x⟩
theorem Fr(p:Pr)(act:Int)(b1 b2 b3:Nat)(hz:p.sz≤1048576)(e:Ex):∀w,p.In w→TM p act b1 b2 b3 w→e.In w→e.wt≤1048576→Kp Zr w 152 #[.agg #[.int .u8 e.op,.int .i64 e.lit.w,.int .u64 e.lit.h,.int .u64 e.lit.l,.string e.head,.string e.name,.int .i64 e.hi,.int .i64 e.lo,.slice e.p e.args.length e.cap],.pointer (some ⟨b1,0,none⟩),.pointer (some ⟨b2,0,none⟩),.pointer (some ⟨b3,0,none⟩)] (.bool (e.there (Xu p act))):=by
 induction e using Ex.ind with
 | _ e ih =>
 intro w hp hT he hw y0;have hp:=hp.plus y0;have hT:=hT.plus y0;have he:=he.plus y0;obtain⟨V,hV⟩:=Zv (plus w y0);rw[hV]at hp hT he ⊢;clear hV;have row:Z2 V 9 Ex.cells e.p e.args:=by cases he;assumption
 have kids:∀x∈e.args,x.In V:=by cases he;assumption
 have Vd:e.args.length≤e.cap∧e.cap≤maxLen:=by cases he;exact⟨by assumption,by assumption⟩
 have hwt:=Ex.wt_eq e;have kwt:∀x∈e.args,x.wt≤1048576:=fun x hx=>by
  have:=We Ex.wt e.args x hx;omega
 have YA:e.args.length≤1048576:=by
  have:=Yw Ex.wt Ex.wt_pos e.args;omega
 have k1:=Hv p V hp hz act e;have kA:=Zg (fun (U:World) (z:ZA) (hU:U=plus V z)=>(show Kp Zr U 154 #[.slice e.p e.args.length e.cap,.func (.func 155) #[] #[.pointer (some ⟨b3,0,none⟩)]] (.int .i64 (Y1 (fun x=>!x.there (Xu p act)) e.args 0)) from by
  subst hU;exact MZ Ex.cells OO (fun x=>!x.there (Xu p act)) 155 #[] #[.pointer (some ⟨b3,0,none⟩)] (Ex.In (plus V z)) (plus V z) ⟨e.p,e.cap,e.args⟩ ⟨Vd.1,Vd.2,row.plus z,fun x hx=>(kids x hx).plus z⟩ YA (enters_of func155 (by kernel_rfl) rfl)
   (fun x hx=>Ik b3 _ 152 _ rfl (enters_of func152 (by kernel_rfl) rfl) x _ (plus V z) (hT.plus z).tc (ih x hx (plus V z) (hp.plus z) (hT.plus z) ((kids x hx).plus z) (kwt x hx)))))
 have hR:(Xu p act e&&e.args.all (Ex.there (Xu p act)))=e.there (Xu p act):=(Ex.there_eq (Xu p act) e).symm;rw[←Pj (Ex.there (Xu p act)) e.args 0]at hR;obtain⟨R,hRR⟩:=Zv (e.there (Xu p act));rw[hRR]at hR ⊢;generalize Xu p act e=b at k1 hR;have hI:∃I,Y1 (fun x=>!x.there (Xu p act)) e.args 0=I:=⟨_,rfl⟩;obtain⟨I,hI⟩:=hI;rw[hI]at kA hR;have Yi:=Zg hR;have k1':=Zg k1;have Xs:=Zg hT;clear k1 hR hRR hI row kids Vd hwt kwt YA hw he hp ih hT;obtain⟨op,⟨lw,lh,ll⟩,hd,nm,hi,lo,ep,ec,el⟩:=e;simp only[Ex.op,Ex.lit,Ex.head,Ex.name,Ex.hi,Ex.lo,Ex.p,Ex.cap,Ex.args]at *;go_enter func152,ntmps152;go_upto_region 1 with (fail)
 obtain⟨W,yy,hW,⟨z,Ym⟩,ca⟩:=Ya V _ 65;rw[hW];have c0:=ca 0 _ rfl;have c1:=ca 1 _ rfl;have c2:=ca 2 _ rfl;have c3:=ca 3 _ rfl;have c4:=ca 4 _ rfl;have c5:=ca 5 _ rfl;have c6:=ca 6 _ rfl;have c7:=ca 7 _ rfl;have c8:=ca 8 _ rfl;have hTW:TM p act b1 b2 b3 W:=by rw[Ym];exact Xs.out.plus z
 have pc0:=fun y=>(hTW.plus y).pc 0 _ rfl;have pc1:=fun y=>(hTW.plus y).pc 1 _ rfl;have pc2:=fun y=>(hTW.plus y).pc 2 _ rfl;have pc3:=fun y=>(hTW.plus y).pc 3 _ rfl;have pc4:=fun y=>(hTW.plus y).pc 4 _ rfl;have pc5:=fun y=>(hTW.plus y).pc 5 _ rfl;have pc6:=fun y=>(hTW.plus y).pc 6 _ rfl;have ac:=fun y=>(hTW.plus y).ac;have q1:=Zg (Zy Ym k1'.out);have qA:=Zg (kA.out W z Ym).pure;have hz2':=Zg Ym;clear hW Ym ca k1' Xs hTW kA;cases b with
 | false =>
  have hR:=Zg (show false=R by rw[←Yi.out,Bool.false_and]);clear Yi qA;go_wp2_with (first|(go_at_call 153;with_reducible refine (q1.out _).mono ?_;rintro r w' ⟨rfl,x,rfl⟩));go_ret;exact⟨congrArg (fun z=>Zf (Zs z)) hR.out,by rw[hz2'.out,Zx];exact⟨_,rfl⟩⟩
 | true =>
  have hR:=Zg (show (I==-1)=R by rw[←Yi.out,Ze]);clear Yi;go_wp2_with (first|(go_at_call 153;with_reducible refine (q1.out _).mono ?_;rintro r w' ⟨rfl,x,rfl⟩)|(go_at_call 154;with_reducible refine (qA.out _).mono ?_;rintro r w' ⟨rfl,x,rfl⟩));go_ret;exact⟨congrArg (fun z=>Zf (Zs z)) hR.out,by rw[hz2'.out,Zx];exact⟨_,rfl⟩⟩
theorem Hu(p:Pr)(w:World)(h:p.In w)(hz:p.sz≤1048576)(act)(e:Ex)(he:e.In w)(hw:e.wt≤1048576):Kp Zr w 137 #[.agg #[.slice p.headers.p p.headers.l.length p.headers.cap,.slice p.metas.p p.metas.l.length p.metas.cap,.slice p.states.p p.states.l.length p.states.cap,.slice p.actions.p p.actions.l.length p.actions.cap,.slice p.tables.p p.tables.l.length p.tables.cap,.slice p.control.p p.control.l.length p.control.cap,.slice p.emit.p p.emit.l.length p.emit.cap],.int .i64 act,.agg #[.int .u8 e.op,.int .i64 e.lit.w,.int .u64 e.lit.h,.int .u64 e.lit.l,.string e.head,.string e.name,.int .i64 e.hi,.int .i64 e.lo,.slice e.p e.args.length e.cap]] (.int .i64 (if e.there (Xu p act) then 0 else 7)):=by
 intro y0;have h:=h.plus y0;have he:=he.plus y0;obtain⟨V,hV⟩:=Zv (plus w y0);rw[hV]at h he ⊢;clear hV;have kN:=Zg (fun (U:World) (z:ZA) (hU:U=plus V z) (b1 b2 b3:Nat) (hT:TM p act b1 b2 b3 U)=>(show Kp Zr U 152 #[.agg #[.int .u8 e.op,.int .i64 e.lit.w,.int .u64 e.lit.h,.int .u64 e.lit.l,.string e.head,.string e.name,.int .i64 e.hi,.int .i64 e.lo,.slice e.p e.args.length e.cap],.pointer (some ⟨b1,0,none⟩),.pointer (some ⟨b2,0,none⟩),.pointer (some ⟨b3,0,none⟩)] (.bool (e.there (Xu p act))) from
  Fr p act b1 b2 b3 hz e U (by rw[hU];exact h.plus z) hT (by rw[hU];exact he.plus z) hw))
 obtain⟨b,hb⟩:=Zv (e.there (Xu p act));rw[hb]at kN ⊢;clear hb he hw h hz;obtain⟨op,⟨lw,lh,ll⟩,hd,nm,hi,lo,ep,ec,el⟩:=e;simp only[Ex.op,Ex.lit,Ex.head,Ex.name,Ex.hi,Ex.lo,Ex.p,Ex.cap,Ex.args]at *;go_enter func137,ntmps137;go_upto_region 3 with (fail)
 obtain⟨W,yy,hW,⟨z,Ym⟩,ca,cb,cc,cd⟩:=N9 V _ _ _ _ 76 3 65 171;rw[hW];have w0:∀{a:Addr} {v:Value},(∀y,(plus W y).cell? a=some v)→W.cell? a=some v:=fun h=>by
  have:=h ⟨#[],W.drawn⟩;rwa [ZK]at this
 have e0:=cc 0 _ rfl;have e1:=cc 1 _ rfl;have e2:=cc 2 _ rfl;have e3:=cc 3 _ rfl;have e4:=cc 4 _ rfl;have e5:=cc 5 _ rfl;have e6:=cc 6 _ rfl;have e7:=cc 7 _ rfl;have e8:=cc 8 _ rfl;have d0:=cd 0 _ rfl;have q1:=Zg (kN.out W z Ym V.heap.size (V.heap.size+1) (V.heap.size+1+1+1) ⟨fun j v hj=>w0 (ca j _ (by simpa using hj)),w0 (cb 0 _ rfl),w0 (cd 0 _ rfl)⟩).pure;have hz2':=Zg Ym;clear hW Ym ca cb cc cd kN w0;cases b with
 | true =>
  go_wp2_with (first|(refine (q1.out _).mono ?_;rintro r w' ⟨rfl,x,rfl⟩));go_ret;exact⟨rfl,by rw[hz2'.out,Zx];exact⟨_,rfl⟩⟩
 | false =>
  go_wp2_with (first|(refine (q1.out _).mono ?_;rintro r w' ⟨rfl,x,rfl⟩));go_ret;exact⟨rfl,by rw[hz2'.out,Zx];exact⟨_,rfl⟩⟩
theorem MY(p1 n1 c1 p2 n2 c2 p3 n3 c3 p4 n4 c4 p5 n5 c5 p6 n6 c6)(pa:Addr)(n nc:Nat)(act hd nm xn yn)(k i:Nat)(fp:Addr)(fn fc:Nat)(yw)(w:World)(hk:k<n)(hi:i<fn)(hc:ZG w (pa.add (k*2)) [.string xn,.slice (some fp) fn fc])(Vo:ZG w (fp.add (i*2)) [.string yn,.int .i64 yw])(h1:Kp Zr w 146 #[.agg #[.slice (some pa) n nc,.slice p1 n1 c1,.slice p2 n2 c2,.slice p3 n3 c3,.slice p4 n4 c4,.slice p5 n5 c5,.slice p6 n6 c6],.string hd] (.int .i64 (k:Int)))(h2:Kp Zr w 143 #[.agg #[.slice (some pa) n nc,.slice p1 n1 c1,.slice p2 n2 c2,.slice p3 n3 c3,.slice p4 n4 c4,.slice p5 n5 c5,.slice p6 n6 c6],.int .i64 (k:Int),.string nm] (.int .i64 (i:Int))) :
  Kp Zr w 138 #[.agg #[.slice (some pa) n nc,.slice p1 n1 c1,.slice p2 n2 c2,.slice p3 n3 c3,.slice p4 n4 c4,.slice p5 n5 c5,.slice p6 n6 c6,.int .i64 act],.string hd,.string nm] (.int .i64 yw):=by
 intro y0;have h1:=h1.up y0;have h2:=h2.up y0;have hc:=hc.plus y0;have Vo:=Vo.plus y0;obtain⟨V,hV⟩:=Zv (plus w y0);rw[hV]at h1 h2 hc Vo ⊢;clear hV;have X2:=Zg h1;have h2':=Zg h2;have Vb:=Zg hc;have hd2':=Zg Vo;clear h1 h2 hc Vo;go_enter func138,ntmps138;go_upto_region 1 with (fail)
 obtain⟨X,Y0,hX,⟨zX,hzX⟩,ca⟩:=Ya V _ 136;rw[hX];have g0:=ca 0 _ rfl;have g1:=ca 1 _ rfl;have g2:=ca 2 _ rfl;have g3:=ca 3 _ rfl;have g4:=ca 4 _ rfl;have g5:=ca 5 _ rfl;have g6:=ca 6 _ rfl;have q1:=Zg (Zy hzX X2.out);have q2:=Zg (Zy hzX h2'.out);have u1:=Xn hzX Vb.out;have u2:=Xn hzX hd2'.out;have d0:=fun y=>(u1.plus y).c0 _ rfl;have d1:=fun y=>(u1.plus y).cs 0 _ rfl;have e0:=fun y=>(u2.plus y).c0 _ rfl;have e1:=fun y=>(u2.plus y).cs 0 _ rfl;have hz:=Zg hzX;clear hX ca hzX u1 u2 X2 h2' Vb hd2';have hneg:¬((k:Int)<0):=by omega
 have hneg2:¬((i:Int)<0):=by omega
 go_upto_region 2 with (first|(go_at_call 146;with_reducible refine (q1.out _).mono ?_;rintro r w' ⟨rfl,x,rfl⟩))
 refine ZP (by kernel_rfl) (by kernel_rfl) ?_;repeat (go_big_quiet_step (first|(with_reducible exact q2.out _)))
 refine wpQuiet_nil ?_;rintro _ ⟨y7,rfl⟩;go_wp2;go_ret;exact⟨rfl,by rw[hz.out,Zx];exact⟨_,rfl⟩⟩
theorem Ie(p0 n0 c0 p2 n2 c2 p3 n3 c3 p4 n4 c4 p5 n5 c5 p6 n6 c6)(pa:Addr)(n nc:Nat)(act nm yn)(i:Nat)(yw)(w:World)(hi:i<n)(Vo:ZG w (pa.add (i*2)) [.string yn,.int .i64 yw])(h1:Kp Zr w 144 #[.agg #[.slice p0 n0 c0,.slice (some pa) n nc,.slice p2 n2 c2,.slice p3 n3 c3,.slice p4 n4 c4,.slice p5 n5 c5,.slice p6 n6 c6],.string nm] (.int .i64 (i:Int))) :
  Kp Zr w 139 #[.agg #[.slice p0 n0 c0,.slice (some pa) n nc,.slice p2 n2 c2,.slice p3 n3 c3,.slice p4 n4 c4,.slice p5 n5 c5,.slice p6 n6 c6,.int .i64 act],.string nm] (.int .i64 yw):=by
 intro y0;have h1:=h1.up y0;have Vo:=Vo.plus y0;obtain⟨V,hV⟩:=Zv (plus w y0);rw[hV]at h1 Vo ⊢;clear hV;have X2:=Zg h1;have hd2':=Zg Vo;clear h1 Vo;go_enter func139,ntmps139;go_upto_region 1 with (fail)
 obtain⟨X,Y0,hX,⟨zX,hzX⟩,ca⟩:=Ya V _ 136;rw[hX];have g0:=ca 0 _ rfl;have g1:=ca 1 _ rfl;have g2:=ca 2 _ rfl;have g3:=ca 3 _ rfl;have g4:=ca 4 _ rfl;have g5:=ca 5 _ rfl;have g6:=ca 6 _ rfl;have q1:=Zg (Zy hzX X2.out);have u2:=Xn hzX hd2'.out;have e0:=fun y=>(u2.plus y).c0 _ rfl;have e1:=fun y=>(u2.plus y).cs 0 _ rfl;have hz:=Zg hzX;clear hX ca hzX u2 X2 hd2';have hneg2:¬((i:Int)<0):=by omega
 refine ZP (by kernel_rfl) (by kernel_rfl) ?_;repeat (go_big_quiet_step (first|(with_reducible exact q1.out _)))
 refine wpQuiet_nil ?_;rintro _ ⟨y7,rfl⟩;go_wp2;go_ret;exact⟨rfl,by rw[hz.out,Zx];exact⟨_,rfl⟩⟩
abbrev UU(p:Pr)(act:Int):Value:=(.agg #[.slice p.headers.p p.headers.l.length p.headers.cap,.slice p.metas.p p.metas.l.length p.metas.cap,.slice p.states.p p.states.l.length p.states.cap,.slice p.actions.p p.actions.l.length p.actions.cap,.slice p.tables.p p.tables.l.length p.tables.cap,.slice p.control.p p.control.l.length p.control.cap,.slice p.emit.p p.emit.l.length p.emit.cap,.int .i64 act])
theorem Fe(p:Pr)(w:World)(ZQ:p.In w)(hz:p.sz≤1048576)(act:Int)(hd nm:ByteArray)(q:Wr p (XN p.headers.l hd) nm≠-1) :
  Kp Zr w 138 #[UU p act,.string hd,.string nm] (.int .i64 (UG p (XN p.headers.l hd) (Wr p (XN p.headers.l hd) nm))):=by
 obtain⟨k,x,i,y,g1,hx,g3,hy⟩:=Pi q;have h1:=Om p w ZQ hz hd;have h2:=Ol p w ZQ hz (XN p.headers.l hd) nm;rw[g3]at h2 ⊢;rw[g1]at h1 h2 ⊢;have hm:=Zl hx;obtain⟨pa,hp,hc⟩:=ZQ.headers.row k x hx;obtain⟨fa,hfp,X3⟩:=(ZQ.headers.kids x hm).fields.row i y hy;have Vc:ZG w (pa.add (k*2)) [.string x.name,.slice x.fields.p x.fields.l.length x.fields.cap]:=hc;have e:UG p (k:Int) (i:Int)=y.w:=by unfold UG;rw[Int.toNat_natCast,hx];exact TW hy
 rw[e];rw[hfp]at Vc;rw[hp]at h1 h2;unfold UU;rw[hp];exact MY _ _ _ _ _ _ _ _ _ _ _ _ _ _ _ _ _ _ _ _ _ act hd nm _ _ k i _ _ _ _ w (Zj.1 hx).1 (Zj.1 hy).1 Vc X3 h1 h2
theorem Fi(p:Pr)(w:World)(ZQ:p.In w)(hz:p.sz≤1048576)(act:Int)(nm:ByteArray)(q:X1 p.metas.l nm≠-1) :
  Kp Zr w 139 #[UU p act,.string nm] (.int .i64 (Vu p.metas.l (X1 p.metas.l nm))):=by
 obtain⟨i,y,g3,hy⟩:=S4 q;have h1:=Oo p w ZQ hz nm;rw[g3]at h1 ⊢;rw[TW hy];obtain⟨pa,hp,hc⟩:=ZQ.metas.row i y hy;rw[hp]at h1;unfold UU;rw[hp];exact Ie _ _ _ _ _ _ _ _ _ _ _ _ _ _ _ _ _ _ _ _ _ act nm _ i _ w (Zj.1 hy).1 hc h1
end Go.Proofs.YtheaknidbcbneaaGreat

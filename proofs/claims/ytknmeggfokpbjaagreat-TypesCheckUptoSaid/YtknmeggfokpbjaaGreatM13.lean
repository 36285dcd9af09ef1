/-
  WHAT IS PROVED HERE: a part of the proof (made narrower and merged by program; the parts: Vo).
-/
import Derived.Test.YtknmeggfokpbjaaGreatM12
set_option maxRecDepth 100000
set_option maxHeartbeats 8000000
set_option linter.all false
namespace Go.Proofs.YtknmeggfokpbjaaGreat
open Z
open Go.RowKit Go.Proofs.Tryz
open Ending renaming returned→Zd
open Lib renaming hid→Zf
open List renaming drop_succ_cons→Zg,drop_zero→Zh,getElem?_eq_some_iff→Zi,mem_of_getElem?→Zo,take_succ_cons→Zs
open Go.Proofs.Tryz renaming prog→Zx
open Value renaming int→Zz
open Go.RowKit
theorem Ro{V W:World}{z:ZH}{f:FuncId}{args:Array Value}{E:Ending}(hz:W=plus V z)(h:Yr Zx V f args E):Yr Zx W f args E:=by
 subst hz;exact h.up z
theorem aC(e x y:Ex)(s t:Ty)(w:World)(ZF:e.In w)(hx:e.args[0]?=some x)(hy:e.args[1]?=some y)(cx:s.fr=true→x.chain=true)(cy:t.fr=true→y.chain=true) :
  Yr Zx w 128 #[e.val,s.v,t.v] (Yl (WC x.free y.free s t).1 (.int .i64 (WC x.free y.free s t).2)):=by
 intro y0;obtain⟨_,_,_,_,_,_,_,_,_,Yj,Xj⟩:=ZF;have g1:=fun k=>(Id s x k w (Xj x (Zo hx)) cx).up y0;have g2:=fun k=>(Id t y k w (Xj y (Zo hy)) cy).up y0;have Yj:=Yj.plus y0;clear Xj cx cy;obtain⟨V,hV⟩:=ZB (plus w y0);rw[hV]at Yj g1 g2 ⊢;clear hV;obtain⟨pa,Yw,YZ⟩:=Yj 0 x hx;obtain⟨pb,Xx,Sc⟩:=Yj 1 y hy;have hpp:pb=pa:=Option.some.inj (Xx.symm.trans Yw);subst hpp;have XQ:1<e.args.length:=(Zi.1 hy).1;simp only[Nat.zero_mul,Addr.add_zero']at YZ;simp only[Nat.one_mul]at Sc;rw[show pb.add 9=⟨pb.block,pb.off+9,none⟩ by simp[Addr.add]]at Sc;obtain⟨n,hn⟩:=ZB x.free;obtain⟨m,hm⟩:=ZB y.free;rw[hn]at g1 ⊢;rw[hm]at g2 ⊢;obtain⟨op,⟨lw,lh,ll⟩,hd,nm,eh,el,ep,ec,eargs⟩:=e;simp only[Ex.val,Ex.cells,Ex.op,Ex.lit,Ex.head,Ex.name,Ex.hi,Ex.lo,Ex.p,Ex.args,Ex.cap]at Yw XQ ⊢;subst Yw;obtain⟨M,hM⟩:=ZB eargs.length;rw[hM]at XQ ⊢;obtain⟨xop,⟨xlw,xlh,xll⟩,xhd,xnm,xeh,xel,xep,xec,xargs⟩:=x;obtain⟨yop,⟨ylw,ylh,yll⟩,yhd,ynm,yeh,yel,yep,yec,yargs⟩:=y;simp only[Ex.val,Ex.cells,Ex.op,Ex.lit,Ex.head,Ex.name,Ex.hi,Ex.lo,Ex.p,Ex.args,Ex.cap]at g1 g2 YZ Sc;clear Yj Xx hx hy hM hn hm;obtain⟨sw,st,sf⟩:=s;obtain⟨tw,tt,tf⟩:=t;obtain⟨E,hE⟩:=ZB (Yl (WC n m ⟨sw,st,sf⟩ ⟨tw,tt,tf⟩).1 (.int .i64 (WC n m ⟨sw,st,sf⟩ ⟨tw,tt,tf⟩).2));rw[hE];have Wc:=Zf hE;have g1':=Zf g1;have g2':=Zf g2;have NA:=Zf YZ;have NB:=Zf Sc;clear hE g1 g2 YZ Sc;simp only[Ty.v]at g1' g2' ⊢;cases st with
 | true =>
  obtain rfl:YJ 9=E:=aue;clear g1' g2' NA NB Wc;go_enter func128,ntmps128;go_wp2_with fail;obtain⟨X,hX,hB,-,ca,cb,cc,-,-,-⟩:=Su V _ _ _ 45 75 75;rw[←hX];obtain⟨zX,ZE⟩:=Yy hB;have c6:=ca 6 _ rfl;have c8:=ca 8 _ rfl;have s0:=cb 0 _ rfl;have s1:=cb 1 _ rfl;have s2:=cb 2 _ rfl;have t0:=cc 0 _ rfl;have t1:=cc 1 _ rfl;have t2:=cc 2 _ rfl;have ZY:=Zf ZE;clear hX hB ca cb cc ZE;rw[←Yk X];obtain⟨Y0,hY0⟩:=ZB ((⟨#[],X.drawn⟩:ZH):ZH);rw[hY0];clear hY0;refine (UD X 9 Y0).mono ?_;rintro r w' ⟨rfl,x9,rfl⟩;go_wp2;exact⟨rfl,rfl,ati⟩
 | false =>
  cases tt with
  | true =>
   obtain rfl:YJ 9=E:=aue;clear g1' g2' NA NB Wc;go_enter func128,ntmps128;go_wp2_with fail;obtain⟨X,hX,hB,-,ca,cb,cc,-,-,-⟩:=Su V _ _ _ 45 75 75;rw[←hX];obtain⟨zX,ZE⟩:=Yy hB;have c6:=ca 6 _ rfl;have c8:=ca 8 _ rfl;have s0:=cb 0 _ rfl;have s1:=cb 1 _ rfl;have s2:=cb 2 _ rfl;have t0:=cc 0 _ rfl;have t1:=cc 1 _ rfl;have t2:=cc 2 _ rfl;have ZY:=Zf ZE;clear hX hB ca cb cc ZE;rw[←Yk X];obtain⟨Y0,hY0⟩:=ZB ((⟨#[],X.drawn⟩:ZH):ZH);rw[hY0];clear hY0;refine (UD X 9 Y0).mono ?_;rintro r w' ⟨rfl,x9,rfl⟩;go_wp2;exact⟨rfl,rfl,ati⟩
  | false =>
   cases sf with
   | true =>
    cases tf with
    | true =>
     obtain rfl:YJ 10=E:=aue;clear g1' g2' NA NB Wc;go_enter func128,ntmps128;go_wp2_with fail;obtain⟨X,hX,hB,-,ca,cb,cc,-,-,-⟩:=Su V _ _ _ 45 75 75;rw[←hX];obtain⟨zX,ZE⟩:=Yy hB;have c6:=ca 6 _ rfl;have c8:=ca 8 _ rfl;have s0:=cb 0 _ rfl;have s1:=cb 1 _ rfl;have s2:=cb 2 _ rfl;have t0:=cc 0 _ rfl;have t1:=cc 1 _ rfl;have t2:=cc 2 _ rfl;have ZY:=Zf ZE;clear hX hB ca cb cc ZE;rw[←Yk X];obtain⟨Y0,hY0⟩:=ZB ((⟨#[],X.drawn⟩:ZH):ZH);rw[hY0];clear hY0;refine (Vq X 9 Y0).mono ?_;rintro r w' ⟨rfl,a1,rfl⟩;rw[ZD];obtain⟨Ya1,hYa1⟩:=ZB ((⟨ZH.blocks Y0++a1.blocks,a1.draws⟩:ZH):ZH);rw[hYa1];clear hYa1;go_wp2_with fail;refine (UD X 10 Ya1).mono ?_;rintro r w' ⟨rfl,x9,rfl⟩;go_wp2;exact⟨rfl,rfl,ati⟩
    | false =>
     go_enter func128,ntmps128;go_wp2_with fail;obtain⟨X,hX,hB,-,ca,cb,cc,-,-,-⟩:=Su V _ _ _ 45 75 75;rw[←hX];obtain⟨zX,ZE⟩:=Yy hB;have c6:=ca 6 _ rfl;have c8:=ca 8 _ rfl;have s0:=cb 0 _ rfl;have s1:=cb 1 _ rfl;have s2:=cb 2 _ rfl;have t0:=cc 0 _ rfl;have t1:=cc 1 _ rfl;have t2:=cc 2 _ rfl;have ZY:=Zf ZE;clear hX hB ca cb cc ZE;rw[←Yk X];obtain⟨Y0,hY0⟩:=ZB ((⟨#[],X.drawn⟩:ZH):ZH);rw[hY0];clear hY0;refine (Vq X 9 Y0).mono ?_;rintro r w' ⟨rfl,a1,rfl⟩;rw[ZD];obtain⟨Ya1,hYa1⟩:=ZB ((⟨ZH.blocks Y0++a1.blocks,a1.draws⟩:ZH):ZH);rw[hYa1];clear hYa1;go_wp2_with fail;refine (Vq X 10 Ya1).mono ?_;rintro r w' ⟨rfl,a2,rfl⟩;rw[ZD];obtain⟨Ya2,hYa2⟩:=ZB ((⟨ZH.blocks Ya1++a2.blocks,a2.draws⟩:ZH):ZH);rw[hYa2];clear hYa2;go_wp2_with fail;obtain⟨R1,VV⟩:=ZB (WA ⟨sw,false,true⟩ n tw);obtain⟨R2,Wd⟩:=ZB (WA ⟨tw,false,false⟩ m tw);have q1:=Xf ZY.out (g1'.out tw);have q2:=Xf ZY.out (g2'.out tw);rw[VV]at q1;rw[Wd]at q2;have q1':=Zf q1;have q2':=Zf q2;have ux:=YR ZY.out NA.out;have x0:=fun y=>(ux.plus y).c0 _ rfl;have x1:=fun y=>(ux.plus y).cs 0 _ rfl;have x2:=fun y=>(ux.plus y).cs 1 _ rfl;have x3:=fun y=>(ux.plus y).cs 2 _ rfl;have x4:=fun y=>(ux.plus y).cs 3 _ rfl;have x5:=fun y=>(ux.plus y).cs 4 _ rfl;have x6:=fun y=>(ux.plus y).cs 5 _ rfl;have x7:=fun y=>(ux.plus y).cs 6 _ rfl;have x8:=fun y=>(ux.plus y).cs 7 _ rfl;have uy:=YR ZY.out NB.out;have y0:=fun y=>(uy.plus y).c0 _ rfl;have y1:=fun y=>(uy.plus y).cs 0 _ rfl;have y2:=fun y=>(uy.plus y).cs 1 _ rfl;have y3:=fun y=>(uy.plus y).cs 2 _ rfl;have y4:=fun y=>(uy.plus y).cs 3 _ rfl;have y5:=fun y=>(uy.plus y).cs 4 _ rfl;have y6:=fun y=>(uy.plus y).cs 5 _ rfl;have y7:=fun y=>(uy.plus y).cs 6 _ rfl;have y8:=fun y=>(uy.plus y).cs 7 _ rfl;clear q1 q2 ux uy;refine Wj 6 asC asC ?_;simp only[Zs,List.take_zero,Zg,Zh];repeat (go_big_quiet_step (fail))
     refine wpQuiet_nil ?_;rintro _ ⟨v1,rfl⟩;go_wp2_with fail;refine (q1'.out v1).mono ?_;rintro r w' ⟨rfl,v2,rfl⟩;by_cases YH:R1=0
     ·subst YH
      simp only[Yl,if_pos];go_wp2_with fail;refine Wj 6 asC asC ?_;simp only[Zs,List.take_zero,Zg,Zh];repeat (go_big_quiet_step (fail))
      refine wpQuiet_nil ?_;rintro _ ⟨v3,rfl⟩;go_wp2_with fail;refine (q2'.out v3).mono ?_;rintro r w' ⟨rfl,v4,rfl⟩;by_cases Xt:R2=0
      ·subst Xt
       obtain rfl:Zd (.int .i64 tw)=E:=by have:=VV;rw[←Wc.out];cases hf:WI n tw <;> simp[WA,hf,WC,Yl]at this ⊢
       simp only[Yl,if_pos];go_wp2;go_ret;exact⟨rfl,asK⟩
      ·obtain rfl:YJ R2=E:=absurd (Wd.symm.trans (by simp[WA])) Xt
       rw[Yl,if_neg Xt];go_wp2;exact⟨rfl,rfl,asK⟩
     ·obtain rfl:YJ R1=E:=by have:=VV;rw[←Wc.out];cases hf:WI n tw <;> simp[WA,hf,WC,Yl]at this ⊢ <;> first|(rw[←this])|(exact absurd this.symm YH)
      rw[Yl,if_neg YH];go_wp2;exact⟨rfl,rfl,asK⟩
   | false =>
    cases tf with
    | true =>
     go_enter func128,ntmps128;go_wp2_with fail;obtain⟨X,hX,hB,-,ca,cb,cc,-,-,-⟩:=Su V _ _ _ 45 75 75;rw[←hX];obtain⟨zX,ZE⟩:=Yy hB;have c6:=ca 6 _ rfl;have c8:=ca 8 _ rfl;have s0:=cb 0 _ rfl;have s1:=cb 1 _ rfl;have s2:=cb 2 _ rfl;have t0:=cc 0 _ rfl;have t1:=cc 1 _ rfl;have t2:=cc 2 _ rfl;have ZY:=Zf ZE;clear hX hB ca cb cc ZE;rw[←Yk X];obtain⟨Y0,hY0⟩:=ZB ((⟨#[],X.drawn⟩:ZH):ZH);rw[hY0];clear hY0;refine (Vq X 9 Y0).mono ?_;rintro r w' ⟨rfl,a1,rfl⟩;rw[ZD];obtain⟨Ya1,hYa1⟩:=ZB ((⟨ZH.blocks Y0++a1.blocks,a1.draws⟩:ZH):ZH);rw[hYa1];clear hYa1;go_wp2_with fail;refine (Vq X 10 Ya1).mono ?_;rintro r w' ⟨rfl,a2,rfl⟩;rw[ZD];obtain⟨Ya2,hYa2⟩:=ZB ((⟨ZH.blocks Ya1++a2.blocks,a2.draws⟩:ZH):ZH);rw[hYa2];clear hYa2;go_wp2_with fail;obtain⟨R1,VV⟩:=ZB (WA ⟨sw,false,false⟩ n sw);obtain⟨R2,Wd⟩:=ZB (WA ⟨tw,false,true⟩ m sw);have q1:=Xf ZY.out (g1'.out sw);have q2:=Xf ZY.out (g2'.out sw);rw[VV]at q1;rw[Wd]at q2;have q1':=Zf q1;have q2':=Zf q2;have ux:=YR ZY.out NA.out;have x0:=fun y=>(ux.plus y).c0 _ rfl;have x1:=fun y=>(ux.plus y).cs 0 _ rfl;have x2:=fun y=>(ux.plus y).cs 1 _ rfl;have x3:=fun y=>(ux.plus y).cs 2 _ rfl;have x4:=fun y=>(ux.plus y).cs 3 _ rfl;have x5:=fun y=>(ux.plus y).cs 4 _ rfl;have x6:=fun y=>(ux.plus y).cs 5 _ rfl;have x7:=fun y=>(ux.plus y).cs 6 _ rfl;have x8:=fun y=>(ux.plus y).cs 7 _ rfl;have uy:=YR ZY.out NB.out;have y0:=fun y=>(uy.plus y).c0 _ rfl;have y1:=fun y=>(uy.plus y).cs 0 _ rfl;have y2:=fun y=>(uy.plus y).cs 1 _ rfl;have y3:=fun y=>(uy.plus y).cs 2 _ rfl;have y4:=fun y=>(uy.plus y).cs 3 _ rfl;have y5:=fun y=>(uy.plus y).cs 4 _ rfl;have y6:=fun y=>(uy.plus y).cs 5 _ rfl;have y7:=fun y=>(uy.plus y).cs 6 _ rfl;have y8:=fun y=>(uy.plus y).cs 7 _ rfl;clear q1 q2 ux uy;refine Wj 6 asC asC ?_;simp only[Zs,List.take_zero,Zg,Zh];repeat (go_big_quiet_step (fail))
     refine wpQuiet_nil ?_;rintro _ ⟨v1,rfl⟩;go_wp2_with fail;refine (q1'.out v1).mono ?_;rintro r w' ⟨rfl,v2,rfl⟩;by_cases YH:R1=0
     ·subst YH
      simp only[Yl,if_pos];go_wp2_with fail;refine Wj 6 asC asC ?_;simp only[Zs,List.take_zero,Zg,Zh];repeat (go_big_quiet_step (fail))
      refine wpQuiet_nil ?_;rintro _ ⟨v3,rfl⟩;go_wp2_with fail;refine (q2'.out v3).mono ?_;rintro r w' ⟨rfl,v4,rfl⟩;by_cases Xt:R2=0
      ·subst Xt
       obtain rfl:Zd (.int .i64 sw)=E:=by have:=Wd;rw[←Wc.out];cases hf:WI m sw <;> simp[WA,hf,WC,Yl]at this ⊢
       simp only[Yl,if_pos];go_wp2;go_ret;exact⟨rfl,asK⟩
      ·obtain rfl:YJ R2=E:=by have:=Wd;rw[←Wc.out];cases hf:WI m sw <;> simp[WA,hf,WC,Yl]at this ⊢ <;> first|(rw[←this])|(exact absurd this.symm Xt)
       rw[Yl,if_neg Xt];go_wp2;exact⟨rfl,rfl,asK⟩
     ·obtain rfl:YJ R1=E:=absurd (VV.symm.trans (by simp[WA])) YH
      rw[Yl,if_neg YH];go_wp2;exact⟨rfl,rfl,asK⟩
    | false =>
     go_enter func128,ntmps128;go_wp2_with fail;obtain⟨X,hX,hB,-,ca,cb,cc,-,-,-⟩:=Su V _ _ _ 45 75 75;rw[←hX];obtain⟨zX,ZE⟩:=Yy hB;have c6:=ca 6 _ rfl;have c8:=ca 8 _ rfl;have s0:=cb 0 _ rfl;have s1:=cb 1 _ rfl;have s2:=cb 2 _ rfl;have t0:=cc 0 _ rfl;have t1:=cc 1 _ rfl;have t2:=cc 2 _ rfl;have ZY:=Zf ZE;clear hX hB ca cb cc ZE;rw[←Yk X];obtain⟨Y0,hY0⟩:=ZB ((⟨#[],X.drawn⟩:ZH):ZH);rw[hY0];clear hY0;refine (Vq X 9 Y0).mono ?_;rintro r w' ⟨rfl,a1,rfl⟩;rw[ZD];obtain⟨Ya1,hYa1⟩:=ZB ((⟨ZH.blocks Y0++a1.blocks,a1.draws⟩:ZH):ZH);rw[hYa1];clear hYa1;go_wp2_with fail;refine (Vq X 10 Ya1).mono ?_;rintro r w' ⟨rfl,a2,rfl⟩;rw[ZD];obtain⟨Ya2,hYa2⟩:=ZB ((⟨ZH.blocks Ya1++a2.blocks,a2.draws⟩:ZH):ZH);rw[hYa2];clear hYa2;go_wp2_with fail;obtain⟨R1,VV⟩:=ZB (WA ⟨sw,false,false⟩ n sw);obtain⟨R2,Wd⟩:=ZB (WA ⟨tw,false,false⟩ m sw);have q1:=Xf ZY.out (g1'.out sw);have q2:=Xf ZY.out (g2'.out sw);rw[VV]at q1;rw[Wd]at q2;have q1':=Zf q1;have q2':=Zf q2;have ux:=YR ZY.out NA.out;have x0:=fun y=>(ux.plus y).c0 _ rfl;have x1:=fun y=>(ux.plus y).cs 0 _ rfl;have x2:=fun y=>(ux.plus y).cs 1 _ rfl;have x3:=fun y=>(ux.plus y).cs 2 _ rfl;have x4:=fun y=>(ux.plus y).cs 3 _ rfl;have x5:=fun y=>(ux.plus y).cs 4 _ rfl;have x6:=fun y=>(ux.plus y).cs 5 _ rfl;have x7:=fun y=>(ux.plus y).cs 6 _ rfl;have x8:=fun y=>(ux.plus y).cs 7 _ rfl;have uy:=YR ZY.out NB.out;have y0:=fun y=>(uy.plus y).c0 _ rfl;have y1:=fun y=>(uy.plus y).cs 0 _ rfl;have y2:=fun y=>(uy.plus y).cs 1 _ rfl;have y3:=fun y=>(uy.plus y).cs 2 _ rfl;have y4:=fun y=>(uy.plus y).cs 3 _ rfl;have y5:=fun y=>(uy.plus y).cs 4 _ rfl;have y6:=fun y=>(uy.plus y).cs 5 _ rfl;have y7:=fun y=>(uy.plus y).cs 6 _ rfl;have y8:=fun y=>(uy.plus y).cs 7 _ rfl;clear q1 q2 ux uy;refine Wj 6 asC asC ?_;simp only[Zs,List.take_zero,Zg,Zh];repeat (go_big_quiet_step (fail))
     refine wpQuiet_nil ?_;rintro _ ⟨v1,rfl⟩;go_wp2_with fail;refine (q1'.out v1).mono ?_;rintro r w' ⟨rfl,v2,rfl⟩;by_cases YH:R1=0
     ·subst YH
      simp only[Yl,if_pos];go_wp2_with fail;refine Wj 6 asC asC ?_;simp only[Zs,List.take_zero,Zg,Zh];repeat (go_big_quiet_step (fail))
      refine wpQuiet_nil ?_;rintro _ ⟨v3,rfl⟩;go_wp2_with fail;refine (q2'.out v3).mono ?_;rintro r w' ⟨rfl,v4,rfl⟩;by_cases Xt:R2=0
      ·subst Xt
       obtain rfl:Zd (.int .i64 sw)=E:=by have:=Wd;rw[←Wc.out];by_cases hf:tw=sw <;> simp[WA,hf,WC,Yl]at this ⊢
       simp only[Yl,if_pos];go_wp2;go_ret;exact⟨rfl,asK⟩
      ·obtain rfl:YJ R2=E:=(Classical.byCases (fun hf:tw=sw=>absurd (Wd.symm.trans (by simp[WA,hf])) Xt) (fun hf:¬tw=sw=>by rw[←Wc.out,←Wd];simp[WA,hf,WC,Yl,show ¬sw=tw from fun c=>hf c.symm]))
       rw[Yl,if_neg Xt];go_wp2;exact⟨rfl,rfl,asK⟩
     ·obtain rfl:YJ R1=E:=absurd (VV.symm.trans (by simp[WA])) YH
      rw[Yl,if_neg YH];go_wp2;exact⟨rfl,rfl,asK⟩
end Go.Proofs.YtknmeggfokpbjaaGreat

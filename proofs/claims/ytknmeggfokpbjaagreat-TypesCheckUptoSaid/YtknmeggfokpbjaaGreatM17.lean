/-
  WHAT IS PROVED HERE: a part of the proof (made narrower and merged by program; the parts: Vb Vc).
-/
import Derived.Test.YtknmeggfokpbjaaGreatM11
import Derived.Test.YtknmeggfokpbjaaGreatM16
set_option maxRecDepth 100000
set_option maxHeartbeats 8000000
set_option linter.all false
namespace Go.Proofs.YtknmeggfokpbjaaGreat
open Z
open Go.RowKit Go.Proofs.Tryz
open Below renaming refl→Zb
open Lib renaming hid→Zf
open List renaming getElem?_eq_some_iff→Zi
open Nat renaming le_refl→Zt
open Go.Proofs.Tryz renaming prog→Zx
open World renaming cell?_setCell_other→ZA
open Go.RowKit
theorem LG(t:Ty)(w):Kp Zx w 116 #[.agg #[.int .i64 t.w,.bool t.tr,.bool t.fr]] (.int .i64 (Yz t)):=by
 intro y0;obtain⟨W,hW⟩:=ZB (plus w y0);rw[hW];clear hW;obtain⟨tw,tt,tf⟩:=t;go_enter func116,ntmps116;go_upto_region 1 with (fail)
 obtain⟨U,yy,hU,⟨z,hz⟩,ca⟩:=YO W _ 75;rw[hU];have c1:=ca 1 _ rfl;have c2:=ca 2 _ rfl;have ZN:=Zf hz;clear hU hz ca;cases tt <;> cases tf
 all_goals
  go_wp2;go_ret;exact⟨rfl,asO⟩
theorem FM(k):∀(e:Ex) (w:World),e.In w→e.wt≤1048576→e.chain=true→Calls Zx 121 #[e.val,.int .i64 k] w fun r w'=>r=.returned (.bool (WI e.free k))∧∃x,w'=plus w x:=by
 intro e;induction e using Ex.ind with
 | _ e ih =>
 intro w he hb Sb;have UO:e.op=1→e.free=e.lit.n:=fun h=>by rw[Ex.free_eq,if_pos h]
 have Uw:¬e.op=1→e.free=Ex.frees e.args:=fun h=>by rw[Ex.free_eq,if_neg h]
 have Uv:=Ex.chain_eq e;rw[Sb]at Uv;obtain⟨F,hF⟩:=ZB e.free;rw[hF]at UO Uw ⊢;obtain⟨op,⟨lw,lh,ll⟩,hd,nm,eh,el,ep,cap,args⟩:=e;obtain⟨_,_,WU,_,_,_,_,_,_,Yj,Xj⟩:=he;have Wk:=Ex.wt_eq (.mk op ⟨lw,lh,ll⟩ hd nm eh el ep cap args);simp only[Ex.args,Ex.head,Ex.name,Ex.p,Ex.op,Ex.lit]at ih Yj Xj Wk UO Uw Uv WU;rw[Wk]at hb;clear Wk Sb hF;show Calls Zx 121 #[.agg #[.int .u8 op,.int .i64 lw,.int .u64 lh,.int .u64 ll,.string hd,.string nm,.int .i64 eh,.int .i64 el,.slice ep args.length cap],.int .i64 k] w _
 by_cases o1:op=1
 ·subst o1
  have Rg:=UO rfl;clear UO Uw;have ZL:=FY (Lt.n ⟨lw,lh,ll⟩) k (Lt.n_lt WU);rw[←Lt.nv_eq WU]at ZL;have ZL':=Zf ZL;have hfe':=Zf Rg;clear ZL Rg Uv ih Yj Xj hb WU;go_enter func121,ntmps121;go_upto_region 1 with (fail)
  obtain⟨U,yy,hU,⟨z,hz⟩,ca⟩:=YO w _ 45;rw[hU];have c0:=ca 0 _ rfl;have c2:=ca 2 _ rfl;have c3:=ca 3 _ rfl;have ZN:=Zf hz;clear hU hz ca;go_wp2_with (first|(go_at_call 122;refine (ZL'.out _).mono ?_;rintro r w' ⟨rfl,x,rfl⟩));go_ret;exact⟨by rw[hfe'.out];rfl,asU⟩
 ·have Rg:=Uw o1
  clear UO Uw;have n1:(op==1)=false:=by simpa using o1
  rw[n1,Bool.false_or]at Uv;cases args with
  | nil=>simp[Ex.chains]at Uv
  | cons a l =>
   simp only[Ex.chains]at Uv;have hfa:F=a.free:=Rg;obtain⟨pa,Yw,hc⟩:=Yj 0 a rfl;have ZV:a∈a :: l:=List.mem_cons_self ..;have hew:=YW Ex.wt (a :: l) a ZV;have Xw:=fun y=>ih a ZV (plus w y) ((Xj a ZV).plus y) asB Uv.symm;rw[←hfa]at Xw;have hl:0<(a :: l).length:=Nat.succ_pos _;obtain⟨n,hn⟩:=ZB ((a :: l).length);rw[hn]at hl ⊢;rw[Yw];rw[Nat.zero_mul,Addr.add_zero']at hc;obtain⟨eop,⟨elw,elh,ell⟩,ehd,enm,eeh,eel,eep,ecap,eargs⟩:=a;have Qp:∀y,Calls Zx 121 #[.agg #[.int .u8 eop,.int .i64 elw,.int .u64 elh,.int .u64 ell,.string ehd,.string enm,.int .i64 eeh,.int .i64 eel,.slice eep eargs.length ecap],.int .i64 k] (plus w y) fun r w'=>r=.returned (.bool (WI F k))∧∃x,w'=plus (plus w y) x:=Xw;have TP:=Zf Qp;have Yo:=Zf hc;clear Xw Qp Rg hfa Uv ih Yj Xj hb WU ZV hew hn Yw hc o1;go_enter func121,ntmps121;go_upto_region 1 with (fail)
   obtain⟨U,yy,hU,⟨z,hz⟩,ca⟩:=YO w _ 45;rw[hU];have c0:=ca 0 _ rfl;have c8:=ca 8 _ rfl;have ZN:=Zf hz;have Uu:=fun y=>((YR hz Yo.out).plus y);have d0:=fun y=>(Uu y).c0 _ rfl;have d1:=fun y=>(Uu y).cs 0 _ rfl;have d2:=fun y=>(Uu y).cs 1 _ rfl;have d3:=fun y=>(Uu y).cs 2 _ rfl;have d4:=fun y=>(Uu y).cs 3 _ rfl;have d5:=fun y=>(Uu y).cs 4 _ rfl;have d6:=fun y=>(Uu y).cs 5 _ rfl;have d7:=fun y=>(Uu y).cs 6 _ rfl;have d8:=fun y=>(Uu y).cs 7 _ rfl;simp only[Ex.op,Ex.lit,Ex.head,Ex.name,Ex.hi,Ex.lo,Ex.p,Ex.cap,Ex.args]at d0 d1 d2 d3 d4 d5 d6 d7 d8;have q1:=Zf (fun y=>by have:=TP.out (⟨z.blocks++y.blocks,y.draws⟩:ZH);rwa [←ZD,←hz]at this:∀y,Calls Zx 121 #[.agg #[.int .u8 eop,.int .i64 elw,.int .u64 elh,.int .u64 ell,.string ehd,.string enm,.int .i64 eeh,.int .i64 eel,.slice eep eargs.length ecap],.int .i64 k] (plus U y) fun r w'=>r=.returned (.bool (WI F k))∧∃x,w'=plus (plus U y) x);clear hU hz ca Uu TP Yo;go_wp2_with (first|(go_at_call 121;with_reducible refine (q1.out _).mono ?_;rintro r w' ⟨rfl,x,rfl⟩));go_ret;exact⟨rfl,asU⟩
abbrev tyV(w:Int)(tr fr:Bool):Value:=.agg #[.int .i64 w,.bool tr,.bool fr]
abbrev VD(r:Int × Ty):Value:=.tuple #[tyV r.2.w r.2.tr r.2.fr,.int .i64 r.1]
theorem ZM{W W2:World}{z:ZH}{a:Addr}{v:Option Value}(hz:W2=plus W z)(h:∀y,(plus W y).cell? a=v):∀y,(plus W2 y).cell? a=v:=fun y=>by rw[hz,ZD];exact h _
theorem VC{W X:World}{z:ZH}(hX:X=plus W z)(b:Nat)(hb:W.heap.size≤b)(y:ZH)(u0 u1 u2 v0 v1 v2:Value)(r0:∀y,(plus X y).cell? ⟨b,0,none⟩=some u0)(r1:∀y,(plus X y).cell? ⟨b,1,none⟩=some u1)(r2:∀y,(plus X y).cell? ⟨b,2,none⟩=some u2) :
  ∃V,((((plus X y).setCell ⟨b,0,none⟩ v0).setCell ⟨b,1,none⟩ v1).setCell ⟨b,2,none⟩ v2)=V∧V.cell? ⟨b,0,none⟩=some v0∧V.cell? ⟨b,1,none⟩=some v1∧V.cell? ⟨b,2,none⟩=some v2∧∃x,V=plus W x:=by
 have n01:(⟨b,0,none⟩:Addr)≠⟨b,1,none⟩:=asD;have n02:(⟨b,0,none⟩:Addr)≠⟨b,2,none⟩:=asD;have n12:(⟨b,1,none⟩:Addr)≠⟨b,2,none⟩:=asD;refine⟨_,rfl,?_,?_,?_,?_⟩
 ·rw[ZA (h:=n02.symm),ZA (h:=n01.symm)]
  exact World.cell?_setCell_same _ _ _ (r0 y)
 ·rw[ZA (h:=n12.symm)]
  exact World.cell?_setCell_same _ _ _ ((ZA _ _ _ _ n01).trans (r1 y))
 ·exact World.cell?_setCell_same _ _ _ ((ZA _ _ _ _ n12).trans ((ZA _ _ _ _ n02).trans (r2 y)))
 ·refine Yy ?_
  rw[hX,ZD];exact (((Xl W _).setCell as9 v0).setCell as9 v1).setCell as9 v2
theorem yu(W:World)(o:Obj):∃z,W.alloc o=plus W z:=Yy ((Zb _ W).alloc (Zt _) o)
theorem yI(w)(A:Sl Fd):Kp Zx w 206 #[.slice A.p A.l.length A.cap,.int .i64 (-1)] (VD (7,XH)):=by
 intro y0;obtain⟨W,hW⟩:=ZB (plus w y0);rw[hW];clear hW;obtain⟨p,cap,l⟩:=A;go_enter func206,ntmps206;go_wp2;have g0:(W.alloc (.cells #[.int .i64 (0),.bool false,.bool false] 75)).cell? ⟨W.heap.size,0,none⟩=some (.int .i64 (0)):=YI W _ _ _ 0 rfl;have g1:(W.alloc (.cells #[.int .i64 (0),.bool false,.bool false] 75)).cell? ⟨W.heap.size,1,none⟩=some (.bool false):=YI W _ _ _ 1 rfl;have g2:(W.alloc (.cells #[.int .i64 (0),.bool false,.bool false] 75)).cell? ⟨W.heap.size,2,none⟩=some (.bool false):=YI W _ _ _ 2 rfl;exact bodyPost_ret (v:=VD (7,XH)) (by simp[XH,results,Tryz.results206,go_sem,g0,g1,g2]) rfl ⟨rfl,yu _ _⟩
theorem FP(K:Fd→Prop)(w:World)(A:Sl Fd)(hA:A.In w 2 Fd.cells K)(i:Nat)(x:Fd)(hx:A.l[i]?=some x):Kp Zx w 206 #[.slice A.p A.l.length A.cap,.int .i64 (i:Int)] (VD (0,XN x.w)):=by
 intro y0;have hA:=hA.row.plus y0;obtain⟨W,hW⟩:=ZB (plus w y0);rw[hW]at hA ⊢;clear hW;obtain⟨p,cap,l⟩:=A;simp only at hA hx ⊢;have ZC:i<l.length:=(Zi.1 hx).1;obtain⟨pa,Yw,hc⟩:=hA i x hx;obtain⟨n,hn⟩:=ZB l.length;rw[hn]at ZC ⊢;rw[Yw];have d1:=fun o:Obj=>YG (hc.cs 0 _ rfl) o;clear hA hx hn Yw hc;obtain⟨xn,xw⟩:=x;simp only at d1 ⊢;go_enter func206,ntmps206;go_wp2;have g0:(W.alloc (.cells #[.int .i64 (xw),.bool false,.bool false] 75)).cell? ⟨W.heap.size,0,none⟩=some (.int .i64 (xw)):=YI W _ _ _ 0 rfl;have g1:(W.alloc (.cells #[.int .i64 (xw),.bool false,.bool false] 75)).cell? ⟨W.heap.size,1,none⟩=some (.bool false):=YI W _ _ _ 1 rfl;have g2:(W.alloc (.cells #[.int .i64 (xw),.bool false,.bool false] 75)).cell? ⟨W.heap.size,2,none⟩=some (.bool false):=YI W _ _ _ 2 rfl;exact bodyPost_ret (v:=VD (0,XN xw)) (by simp[XN,results,Tryz.results206,go_sem,g0,g1,g2]) rfl ⟨rfl,yu _ _⟩
theorem dk(op lw lh ll hd nm)(eh el:Int)(ep en ec)(t:Ty)(w)(hw:Yz t=0→eh<t.w→wrap64 (wrap64 (1+eh)-el)=eh-el+1):Kp Zx w 182 #[.agg #[.int .u8 op,.int .i64 lw,.int .u64 lh,.int .u64 ll,.string hd,.string nm,.int .i64 eh,.int .i64 el,.slice ep en ec],.agg #[.int .i64 t.w,.bool t.tr,.bool t.fr]] (VD (V0 op eh el t)):=by
 have kb:=LG t w;intro y0;have kb:=kb.up y0;obtain⟨W,hW⟩:=ZB (plus w y0);rw[hW]at kb ⊢;clear hW;have kb':=Zf kb;have Xr:=Zf hw;obtain⟨R,hR⟩:=ZB (V0 op eh el t);rw[hR];have hv:=hR;unfold V0 at hv;clear kb hw hR;obtain⟨tw,tt,tf⟩:=t;go_enter func182,ntmps182;go_upto_region 1 with (fail)
 obtain⟨U,hU,hB,hs,ca,cb,cc,fa,fb,fc⟩:=Su W _ _ _ 45 75 75;rw[←hU];have XI:=Zf hB;clear hU hs hB fa fb;have ca':=Zf ca;have cb':=Zf cb;have cc':=Zf cc;have fc':=Zf fc;clear ca cb cc fc;go_upto_region 2 with (fail)
 obtain⟨X,hX,hBX,hsX,cn,fn⟩:=WS U _ 75;rw[←hX];obtain⟨zX,ZE⟩:=Yy hBX;obtain⟨zU,X9⟩:=Yy XI.out;have c0:=ZM ZE (ca'.out 0 _ rfl);have c6:=ZM ZE (ca'.out 6 _ rfl);have c7:=ZM ZE (ca'.out 7 _ rfl);have t0:=ZM ZE (cb'.out 0 _ rfl);have t1:=ZM ZE (cb'.out 1 _ rfl);have t2:=ZM ZE (cb'.out 2 _ rfl);have r0:=ZM ZE (cc'.out 0 _ rfl);have r1:=ZM ZE (cc'.out 1 _ rfl);have r2:=ZM ZE (cc'.out 2 _ rfl);have fX:∀y o,(plus X y).frozen? ⟨W.heap.size+1+1,o,none⟩=false:=fun y o=>by rw[ZE,ZD];exact fc'.out _ o
 have n0:=cn 0 _ rfl;have n1:=cn 1 _ rfl;have n2:=cn 2 _ rfl;obtain⟨zW,Yn⟩:∃z,X=plus W z:=by rw[ZE,X9,ZD];exact⟨_,rfl⟩
 have qb:=Zf (ZK Yn kb'.out);have NG:=Zf Yn;clear XI ca' cb' cc' fc' hX hBX hsX cn fn ZE X9 Yn kb';rw[←Yk X];replace hv:=hv;by_cases o9:op=9
 ·rw[if_pos o9]at hv
  subst o9;cases tt with
  | true =>
   rw[if_pos rfl]at hv;subst hv;clear Xr qb;go_wp2;obtain⟨V,hV,g0,g1,g2,hz⟩:=VC NG.out (W.heap.size+1+1) asB _ _ _ _ (.int .i64 tw) (.bool true) (.bool tf) r0 r1 r2;rw[hV];clear hV;exact bodyPost_ret (v:=.tuple #[.agg #[.int .i64 tw,.bool true,.bool tf],.int .i64 0]) atj rfl ⟨rfl,hz⟩
  | false =>
   rw[if_neg asD]at hv;subst hv;clear Xr qb;go_wp2;obtain⟨V,hV,g0,g1,g2,hz⟩:=VC NG.out (W.heap.size+1+1) asB _ _ _ _ (.int .i64 0) (.bool false) (.bool false) r0 r1 r2;rw[hV];clear hV;exact bodyPost_ret (v:=.tuple #[.agg #[.int .i64 0,.bool false,.bool false],.int .i64 9]) atj rfl ⟨rfl,hz⟩
 have m9:(op==9)=false:=by simpa using o9
 rw[if_neg o9]at hv;by_cases o10:op=10
 ·rw[if_pos o10]at hv
  subst o10;clear m9 o9;by_cases hb:Yz ⟨tw,tt,tf⟩=0
  ·rw[if_neg as9]at hv
   rw[hb]at qb;by_cases h5:tw≤eh
   ·rw[if_pos h5]at hv
    subst hv;clear Xr hb;open Z renaming aj7→AM in exact uP
   ·rw[if_neg h5]at hv
    subst hv;have h6:eh<tw:=asB;have e7:=Zf (Xr.out hb h6);clear Xr hb h5;go_wp2_with (first|(go_at_call 116;with_reducible refine (qb.out _).mono ?_;rintro r w' ⟨rfl,x,rfl⟩));simp only[e7.out];obtain⟨V,hV,g0,g1,g2,hz⟩:=VC NG.out (W.heap.size+1+1) asB _ _ _ _ (.int .i64 (eh-el+1)) (.bool false) (.bool false) r0 r1 r2;rw[hV];clear hV;exact bodyPost_ret (v:=.tuple #[.agg #[.int .i64 (eh-el+1),.bool false,.bool false],.int .i64 0]) atj rfl ⟨rfl,hz⟩
  ·rw[if_pos hb]at hv
   obtain⟨B,hB⟩:=ZB (Yz ⟨tw,tt,tf⟩);rw[hB]at qb hv hb;subst hv;have h6:(B==0)=false:=as9;clear Xr hb hB;open Z renaming aj8→AM in exact uP
 have m10:(op==10)=false:=by simpa using o10
 rw[if_neg o10]at hv;clear o9 o10;cases tt with
 | true =>
  rw[if_pos rfl]at hv;subst hv;clear Xr qb;go_wp2;obtain⟨V,hV,g0,g1,g2,hz⟩:=VC NG.out (W.heap.size+1+1) asB _ _ _ _ (.int .i64 0) (.bool false) (.bool false) r0 r1 r2;rw[hV];clear hV;exact bodyPost_ret (v:=.tuple #[.agg #[.int .i64 0,.bool false,.bool false],.int .i64 9]) atj rfl ⟨rfl,hz⟩
 | false =>
  rw[if_neg asD]at hv;subst hv;clear Xr qb;go_wp2;obtain⟨V,hV,g0,g1,g2,hz⟩:=VC NG.out (W.heap.size+1+1) asB _ _ _ _ (.int .i64 tw) (.bool false) (.bool tf) r0 r1 r2;rw[hV];clear hV;exact bodyPost_ret (v:=.tuple #[.agg #[.int .i64 tw,.bool false,.bool tf],.int .i64 0]) atj rfl ⟨rfl,hz⟩
end Go.Proofs.YtknmeggfokpbjaaGreat

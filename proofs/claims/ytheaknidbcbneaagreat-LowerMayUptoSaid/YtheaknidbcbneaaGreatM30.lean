/-
  WHAT IS PROVED HERE: a part of the proof (made narrower and merged by program; the parts: Vv Vw Vx Vy Lsd).
-/
import Derived.Recover
import Derived.Test.YtheaknidbcbneaaGreatM24
import Derived.Test.YtheaknidbcbneaaGreatM29
import Derived.Test.YtheaknidbcbneaaGreatM22
import Derived.Test.YtheaknidbcbneaaGreatM18
set_option maxRecDepth 100000
set_option maxHeartbeats 8000000
set_option linter.all false
namespace Go.Proofs.YtheaknidbcbneaaGreat
open Go.RowKit Go.Proofs.Tryz
open Bool renaming and_eq_true→Zd
open Lib renaming hid→Zg
open List renaming getElem?_eq_getElem→Zi,mem_cons_self→Zk
open Nat renaming zero_le→Zq
open Go.Proofs.Tryz renaming prog→Zr
open Value renaming int→Zt
open World renaming cell?_setCell_other→Zu
open Go.RowKit
theorem SS{x:Int}(h1:-9223372036854775808≤x)(h2:x≤9223372036854775807):wrap64 x=x:=by unfold wrap64;omega
theorem Pd{v:Value}:Z5 0 v=.returned v:=rfl
theorem UD{r:Int}{v:Value}(h:¬r=0):Z5 r v=Yl r:=by rw[Z5,if_neg h]
theorem Fl(p:Pr)(hz:p.sz≤1048576)(hW:ST p)(act:Int):∀(e:Ex) (n:Nat) (w:World),e.may n=true→p.In w→e.In w→e.wt≤1048576 →
  Ye Zr w 63 #[UU p act,e.val] (Z5 (e.ty p act).1 (e.ty p act).2.v):=by
 intro e;induction e using Ex.ind with
 | _ e ih =>
 intro n w hm ZQ he hb;have Xh:=Ex.ty_eq p act e;cases n with
 | zero=>simp[Ex.may]at hm
 | succ n =>
 rw[Ex.may]at hm;simp only[Zd]at hm;obtain⟨-,Xg,hk⟩:=hm;have UI:=Pb hk;unfold Ex.fits at Xg;simp only[Zd]at Xg;obtain⟨-,-,-,WZ,-⟩:=Xg;have hwt:=Ex.wt_eq e;have hlf:=Fh p w ZQ hz act e he hb;have hone:=fun t h=>Fj e t w h;have htwo:=fun x y s t=>Fk e x y s t w he;obtain⟨⟨R,t⟩,hR⟩:∃R,e.ty p act=R:=⟨_,rfl⟩;rw[hR]at Xh ⊢;clear hR hk;obtain⟨_,_,VM,_,_,_,_,_,_,Z1,Wl⟩:=he;obtain⟨op,⟨lw,lh,ll⟩,hd,nm,eh,el,ep,cap,args⟩:=e;simp only[Ex.args,Ex.head,Ex.name,Ex.p,Ex.op,Ex.lit,Ex.hi,Ex.lo]at ih Z1 Wl hwt Xh UI WZ hlf hone htwo;rw[hwt]at hb;clear hwt VM;cases args with
 | nil =>
  simp only[List.map_nil,Uw]at Xh;have hlf:=hlf rfl;rw[←Xh]at hlf;simp only at hlf ⊢;clear hone htwo;by_cases r0:R=0
  ·subst r0
   exact FD _ _ _ _ _ _ _ _ _ _ _ _ _ _ _ _ _ _ _ _ _ act _ _ _ _ _ _ _ _ _ _ op t.w t.tr t.fr w rfl hlf
  ·rw[UD r0]at hlf ⊢
   exact FE _ _ _ _ _ _ _ _ _ _ _ _ _ _ _ _ _ _ _ _ _ act _ _ _ _ _ _ _ _ _ _ op R w rfl hlf
 | cons a l =>
  have hma:=Zk (a:=a) (l:=l);have hea:=We Ex.wt (a :: l) a hma;have ka:=ih a hma n w (UI a hma) ZQ (Wl a hma) (by omega);have wa:=Ex.ty_wide p hW act a n (UI a hma);have fa:=Ex.ty_fine p act a;obtain⟨pa,VO,hc⟩:=Z1 0 a rfl;simp only[Nat.zero_mul,Addr.add_zero']at hc;simp only[List.map_cons,Uw]at Xh;obtain⟨⟨ra,ta⟩,hRa⟩:∃r,a.ty p act=r:=⟨_,rfl⟩;rw[hRa]at ka Xh wa fa;have YA:0<(a :: l).length:=Nat.succ_pos _;subst VO;clear hlf;by_cases r0:ra=0
  ·subst r0
   rw[Pd]at ka;simp only[ne_eq,not_true_eq_false,if_false]at Xh;have wa:=wa rfl;have fa:=fa rfl;have kw:=Rq ta w;by_cases o14:op=14
   ·subst o14
    rw[if_pos (by decide)]at Xh;by_cases q:Z7 ta=0
    ·rw[if_neg (by simpa using q)]at Xh
     rw[if_pos q]at kw;obtain⟨rfl,rfl⟩:R=0∧t=ta:=by injection Xh with h1 h2;exact⟨h1,h2⟩
     obtain⟨tw,tt,tf⟩:=t;obtain⟨rfl,rfl⟩:tt=false∧tf=false:=Uh q;exact FH _ _ _ _ _ _ _ _ _ _ _ _ _ _ _ _ _ _ _ _ _ act _ _ _ _ _ _ _ pa _ _ tw _ _ _ _ _ _ _ _ _ _ _ w YA hc ka kw
    ·rw[if_pos q]at Xh
     rw[if_neg q]at kw;obtain⟨rfl,rfl⟩:R=Z7 ta∧t=YV:=by injection Xh with h1 h2;exact⟨h1,h2⟩
     simp only;rw[UD q];exact FI _ _ _ _ _ _ _ _ _ _ _ _ _ _ _ _ _ _ _ _ _ act _ _ _ _ _ _ _ pa _ _ ta.w ta.tr ta.fr _ _ _ _ _ _ _ _ _ _ _ _ w YA hc ka kw
   by_cases o15:op=15
   ·subst o15
    rw[if_pos (by decide)]at Xh;by_cases q:Z7 ta=0
    ·rw[if_neg (by simpa using q)]at Xh
     rw[if_pos q]at kw;obtain⟨rfl,rfl⟩:R=0∧t=ta:=by injection Xh with h1 h2;exact⟨h1,h2⟩
     obtain⟨tw,tt,tf⟩:=t;obtain⟨rfl,rfl⟩:tt=false∧tf=false:=Uh q;exact FJ _ _ _ _ _ _ _ _ _ _ _ _ _ _ _ _ _ _ _ _ _ act _ _ _ _ _ _ _ pa _ _ tw _ _ _ _ _ _ _ _ _ _ _ w YA hc ka kw
    ·rw[if_pos q]at Xh
     rw[if_neg q]at kw;obtain⟨rfl,rfl⟩:R=Z7 ta∧t=YV:=by injection Xh with h1 h2;exact⟨h1,h2⟩
     simp only;rw[UD q];exact FK _ _ _ _ _ _ _ _ _ _ _ _ _ _ _ _ _ _ _ _ _ act _ _ _ _ _ _ _ pa _ _ ta.w ta.tr ta.fr _ _ _ _ _ _ _ _ _ _ _ _ w YA hc ka kw
   rw[if_neg (by omega)]at Xh;have o14':(op==14)=false:=by simpa using o14
   have o15':(op==15)=false:=by simpa using o15
   clear kw;cases l with
   | nil =>
    simp only[List.map_nil]at Xh;have kO:=hone ta (fun h1 h2=>by
     have hb2:=Uh h1;have hw2:1≤ta.w∧ta.w≤128:=wa hb2.1 hb2.2;have he2:0≤el∧el≤eh∧eh<128:=by
      unfold TU at WZ;split at WZ <;> simp only[Zd,decide_eq_true_eq,beq_iff_eq]at WZ <;> omega
     have e1:wrap64 (eh-el)=eh-el:=SS (by omega) (by omega);rw[e1];exact SS (by omega) (by omega))
    rw[←Xh]at kO;simp only at kO ⊢;by_cases r1:R=0
    ·subst r1
     exact FF _ _ _ _ _ _ _ _ _ _ _ _ _ _ _ _ _ _ _ _ _ act _ _ _ _ _ _ _ pa _ _ op ta.w ta.tr ta.fr _ _ _ _ _ _ _ _ _ _ _ t.w t.tr t.fr w rfl hc o14' o15' ka kO
    ·rw[UD r1]at kO ⊢
     exact FG _ _ _ _ _ _ _ _ _ _ _ _ _ _ _ _ _ _ _ _ _ act _ _ _ _ _ _ _ pa _ _ op ta.w ta.tr ta.fr _ _ _ _ _ _ _ _ _ _ _ R w rfl hc o14' o15' ka kO
   | cons d l =>
    simp only[List.map_cons]at Xh;have hmd:d∈a :: d :: l:=by simp
    have hed:=We Ex.wt (a :: d :: l) d hmd;have kd:=ih d hmd n w (UI d hmd) ZQ (Wl d hmd) (by omega);have wd:=Ex.ty_wide p hW act d n (UI d hmd);have fd:=Ex.ty_fine p act d;obtain⟨pb,hpb,hcd⟩:=Z1 1 d rfl;obtain rfl:=Option.some.inj hpb;simp only[Nat.one_mul]at hcd;rw[show pa.add 9=⟨pa.block,pa.off+9,none⟩ by simp[Addr.add]]at hcd;obtain⟨⟨rd,td⟩,hRd⟩:∃r,d.ty p act=r:=⟨_,rfl⟩;rw[hRd]at kd Xh wd fd;have hn:(((a :: d :: l).length:Int)==1)=false:=by simp;omega
    have XB:1<(a :: d :: l).length:=by simp
    by_cases r1:rd=0
    ·subst r1
     rw[Pd]at kd;simp only[not_true_eq_false,if_false]at Xh;have wd:=wd rfl;have fd:=fd rfl;have kO:=htwo a d ta td rfl rfl fa.2 fd.2 (fun h1 h2=>by
      have hb1:=Uh h1;have hb2:=Uh h2;have hw1:1≤ta.w∧ta.w≤128:=wa hb1.1 hb1.2;have hw2:1≤td.w∧td.w≤128:=wd hb2.1 hb2.2;exact⟨SS (by omega) (by omega),fun _=>SS (by omega) (by omega)⟩)
     rw[←Xh]at kO;simp only at kO ⊢;by_cases r2:R=0
     ·subst r2
      exact FL _ _ _ _ _ _ _ _ _ _ _ _ _ _ _ _ _ _ _ _ _ act _ _ _ _ _ _ _ pa _ _ op ta.w ta.tr ta.fr _ _ _ _ _ _ _ _ _ _ _ _ _ _ _ _ _ _ _ _ _ _ td.w td.tr td.fr t.w t.tr t.fr w YA XB hn hc hcd o14' o15' ka kd kO
     ·rw[UD r2]at kO ⊢
      exact FO _ _ _ _ _ _ _ _ _ _ _ _ _ _ _ _ _ _ _ _ _ act _ _ _ _ _ _ _ pa _ _ op ta.w ta.tr ta.fr _ _ _ _ _ _ _ _ _ _ _ _ _ _ _ _ _ _ _ _ _ _ R td.w td.tr td.fr w YA XB hn hc hcd o14' o15' ka kd kO
    ·rw[if_pos (by simpa using r1)]at Xh
     obtain⟨rfl,rfl⟩:R=rd∧t=YV:=by injection Xh with h1 h2;exact⟨h1,h2⟩
     rw[UD r1]at kd ⊢;exact FM _ _ _ _ _ _ _ _ _ _ _ _ _ _ _ _ _ _ _ _ _ act _ _ _ _ _ _ _ pa _ _ op ta.w ta.tr ta.fr _ _ _ _ _ _ _ _ _ _ _ _ _ _ _ _ _ _ _ _ _ _ R w YA XB hn hc hcd o14' o15' ka kd
  ·rw[if_pos (by simpa using r0)]at Xh
   obtain⟨rfl,rfl⟩:R=ra∧t=YV:=by injection Xh with h1 h2;exact⟨h1,h2⟩
   simp only;rw[UD r0]at ka ⊢;exact FC _ _ _ _ _ _ _ _ _ _ _ _ _ _ _ _ _ _ _ _ _ act _ _ _ _ _ _ _ pa _ _ op R _ _ _ _ _ _ _ _ _ _ _ w YA hc ka
theorem NR(v:Value)(w:World):(Instr.typeAssert (.iface 66 v) 20 66 true).run Zr w=.ok (.tuple #[v,.bool true]) w:=by
 simp[Instr.typeAssert,run_underlying Tryz.underlying66,go_sem]
theorem NS(w:World):(Instr.typeAssert .nilIface 20 66 true).run Zr w=.ok (.tuple #[.int .i64 0,.bool false]) w:=by
 simp[Instr.typeAssert,run_underlying Tryz.underlying66,go_sem]
theorem Pn(p x t f d b:Value):(#[p]++(((((((Array.replicate 9 undef).setIfInBounds 3 x).setIfInBounds 4 t).setIfInBounds 2 t).setIfInBounds 5 f).setIfInBounds 6 b).setIfInBounds 0 d).setIfInBounds 1 b:Array Value)=#[p,d,b,t,x,t,f,b,undef,undef]:=by
 simp[Array.replicate]
theorem Mq(n:Nat)(E)(older:List PanicEntry)(w:World)(u:Value)(hp:w.cell? ⟨n,0,none⟩=some u)(fp:∀o,w.frozen? ⟨n,o,none⟩=false) :
  CallsD Zr 135 #[.pointer (some ⟨n,0,none⟩)] (.panicking ({ v:=.iface 66 (.int .i64 E),recovered:=false } :: older)) w
   fun e u' w'=>e=.returned (.tuple #[])∧u'=.panicking ({ v:=.iface 66 (.int .i64 E),recovered:=true } :: older)∧w'=w.setCell ⟨n,0,none⟩ (.int .i64 E):=by
 have hta:=NR (.int .i64 E);refine callsD_of_wpS func135 rfl fun c₀ cs hu=>?_;apply wpS_seq;apply wpS_region;simp[wpOpsS,go_sem,recoverD,hu,ntmps135,Exit.thenS,hta];refine wpS_of_wp ?_;rw[Pn];go_wp2;simp only[bodyPostS];exact⟨trivial,_,rfl,_,results_none rfl _ _ _,by simp⟩
theorem Mr(n:Nat)(w:World) :
  CallsD Zr 135 #[.pointer (some ⟨n,0,none⟩)] .returning w fun e u' w'=>e=.returned (.tuple #[])∧u'=.returning∧w'=w:=by
 have hta:=NS;refine callsD_of_wpS func135 rfl fun c₀ cs hu=>?_;apply wpS_seq;apply wpS_region;simp[wpOpsS,go_sem,recoverD,hu,ntmps135,Exit.thenS,hta];refine wpS_of_wp ?_;rw[Pn];go_wp2;simp only[bodyPostS];cases c₀;simp only at hu;subst hu;exact⟨trivial,_,rfl,_,results_none rfl _ _ _,by simp⟩
theorem Fa(w:World)(G:FuncId)(cap:Array Value)(hG:∀w,(callFunc G cap).run Zr w=.ok (.enter G cap) w)(r:Int)(T:World→Prop)(hC:Calls Zr G cap (w.alloc (.cells #[.int .i64 0] 66)) fun e w'=>e=Z5 r (.tuple #[])∧T w'∧w'.cell? ⟨w.heap.size,0,none⟩=some (.int .i64 0)∧∀o,w'.frozen? ⟨w.heap.size,o,none⟩=false) :
  Calls Zr 107 #[.func (.func G) #[] cap] w fun e w'=>e=.returned (.int .i64 r)∧∃U,T U∧w'=U.setCell ⟨w.heap.size,0,none⟩ (.int .i64 r):=by
 have hmf:∀(fn:Fn) (first cap:Array Value) (w:World),(Instr.makeFunc fn first cap).run Zr w=.ok (.func fn first cap) w:=fun _ _ _ _=>rfl;have Xr:=Zg hC;have hG':=Zg hG;clear hC hG;go_enter_defers func107,ntmps107;go_wp2_with fail;rw[hG'.out,Oper.upon_enter];refine Xr.out.mono ?_;rintro e W ⟨rfl,hT,hc,hf⟩;clear Xr hG';have Xs:=Zg hT;clear hT;obtain⟨n,hn⟩:=Zv w.heap.size;rw[hn]at hc hf ⊢;have ZJ:=Zg hn;clear hn;by_cases z:r=0
 ·subst z
  simp only[Z5,if_pos];go_wp2;refine leaves_cons (f:=135) (args:=#[.pointer (some ⟨n,0,none⟩)]) (by simp) (by simp[go_sem]) ?_;refine (Mr n _).mono ?_;rintro e u' w'' ⟨rfl,rfl,rfl⟩;have p0:(W.setCell ⟨n,0,none⟩ (.int .i64 0)).cell? ⟨n,0,none⟩=some (.int .i64 0):=World.cell?_setCell_same _ _ _ hc;simp[Leaves,settle,results,Tryz.results107,go_sem,p0];exact⟨_,Xs.out,by rw[ZJ.out]⟩
 ·rw[Z5,if_neg z]
  go_wp2;refine leaves_cons (f:=135) (args:=#[.pointer (some ⟨n,0,none⟩)]) (by simp) (by simp[go_sem]) ?_;refine (Mq n r [] W _ hc hf).mono ?_;rintro e u' w'' ⟨rfl,rfl,rfl⟩;have p0:(W.setCell ⟨n,0,none⟩ (.int .i64 r)).cell? ⟨n,0,none⟩=some (.int .i64 r):=World.cell?_setCell_same _ _ _ hc;simp[Leaves,settle,results,Tryz.results107,go_sem,p0];exact⟨_,Xs.out,by rw[ZJ.out]⟩
theorem II(p0 n0 c0 p1 n1 c1 p2 n2 c2 p3 n3 c3 p4 n4 c4 p5 n5 c5 p6 n6 c6 act op lw lh ll hd nm eh el ep en ec)(E:Ending)(W:World)(k1 k2 k3 k4:Nat)(hk:Calls Zr 63 #[.agg #[.slice p0 n0 c0,.slice p1 n1 c1,.slice p2 n2 c2,.slice p3 n3 c3,.slice p4 n4 c4,.slice p5 n5 c5,.slice p6 n6 c6,.int .i64 act],.agg #[.int .u8 op,.int .i64 lw,.int .u64 lh,.int .u64 ll,.string hd,.string nm,.int .i64 eh,.int .i64 el,.slice ep en ec]] W fun e w'=>e=E∧∃x,w'=plus W x)(a0:W.cell? ⟨k1,0,none⟩=some (.slice p0 n0 c0))(a1:W.cell? ⟨k1,1,none⟩=some (.slice p1 n1 c1))(a2:W.cell? ⟨k1,2,none⟩=some (.slice p2 n2 c2))(a3:W.cell? ⟨k1,3,none⟩=some (.slice p3 n3 c3))(a4:W.cell? ⟨k1,4,none⟩=some (.slice p4 n4 c4))(a5:W.cell? ⟨k1,5,none⟩=some (.slice p5 n5 c5))(a6:W.cell? ⟨k1,6,none⟩=some (.slice p6 n6 c6))(b0:W.cell? ⟨k2,0,none⟩=some (.int .i64 act))(d0:W.cell? ⟨k3,0,none⟩=some (.int .u8 op))(d1:W.cell? ⟨k3,1,none⟩=some (.int .i64 lw))(d2:W.cell? ⟨k3,2,none⟩=some (.int .u64 lh))(d3:W.cell? ⟨k3,3,none⟩=some (.int .u64 ll))(d4:W.cell? ⟨k3,4,none⟩=some (.string hd))(d5:W.cell? ⟨k3,5,none⟩=some (.string nm))(d6:W.cell? ⟨k3,6,none⟩=some (.int .i64 eh))(d7:W.cell? ⟨k3,7,none⟩=some (.int .i64 el))(d8:W.cell? ⟨k3,8,none⟩=some (.slice ep en ec))(r0:W.cell? ⟨k4,0,none⟩=some (.int .i64 0))(r1:W.cell? ⟨k4,1,none⟩=some (.bool false))(r2:W.cell? ⟨k4,2,none⟩=some (.bool false))(rf:∀o,W.frozen? ⟨k4,o,none⟩=false)(r:Int)(t:Ty)(hE:E=Z5 r t.v) :
  Calls Zr 62 #[.pointer (some ⟨k1,0,none⟩),.pointer (some ⟨k2,0,none⟩),.pointer (some ⟨k3,0,none⟩),.pointer (some ⟨k4,0,none⟩)] W
   fun e w'=>e=Z5 r (.tuple #[])∧∃x,w'=if r=0 then (((plus W x).setCell ⟨k4,0,none⟩ (.int .i64 t.w)).setCell ⟨k4,1,none⟩ (.bool t.tr)).setCell ⟨k4,2,none⟩ (.bool t.fr) else plus W x:=by
 subst hE;have hk':=Zg hk;have Zz:k4<W.heap.size:=SZ r0;have s0:=fun x=>(YO W x k4 0 Zz).trans r0;have s1:=fun x=>(YO W x k4 1 Zz).trans r1;have s2:=fun x=>(YO W x k4 2 Zz).trans r2;have sf:=fun x o=>(TX W x k4 o Zz).trans (rf o);clear hk Zz r0 r1 r2 rf;go_enter func62,ntmps62;go_wp2_with fail;refine hk'.out.mono ?_;rintro e w' ⟨rfl,x,rfl⟩;clear hk';have t0:=s0 x;have t1:=s1 x;have t2:=s2 x;have tf:=sf x;clear s0 s1 s2 sf;by_cases z:r=0
 ·subst z
  simp only[Z5,if_pos,Ty.v];go_wp2;go_end0;exact⟨rfl,x,rfl⟩
 ·rw[Z5,if_neg z]
  go_wp2;exact⟨rfl,(UD z).symm,x,rfl⟩
theorem Fb(e:Ex)(w)(hm:e.may 16=true)(UJ:Kp Zr w 106 #[e.val] (.bool (e.may 16)))(g:Value)(r)(T:World→Prop)(hC:∀W,(∃z,W=plus w z)→Calls Zr 107 #[g] W fun e w'=>e=.returned (.int .i64 r)∧T w') :
  Calls Zr 61 #[e.val,g] w fun e w'=>e=.returned (.int .i64 r)∧T w':=by
 rw[hm]at UJ;have Xr:=Zg hC;clear hC hm;obtain⟨op,⟨lw,lh,ll⟩,hd,nm,eh,el,ep,ec,eargs⟩:=e;simp only[Ex.val,Ex.cells,Ex.op,Ex.lit,Ex.head,Ex.name,Ex.hi,Ex.lo,Ex.p,Ex.args,Ex.cap]at UJ ⊢;obtain⟨M,hM⟩:=Zv eargs.length;rw[hM]at UJ ⊢;clear hM;have hmay':=Zg UJ;clear UJ;go_enter func61,ntmps61;go_upto_region 1 with (fail)
 obtain⟨X,Y0,hX,⟨zX,hzX⟩,ca⟩:=Ya w _ 65;rw[hX];have d0:=ca 0 _ rfl;have d1:=ca 1 _ rfl;have d2:=ca 2 _ rfl;have d3:=ca 3 _ rfl;have d4:=ca 4 _ rfl;have d5:=ca 5 _ rfl;have d6:=ca 6 _ rfl;have d7:=ca 7 _ rfl;have d8:=ca 8 _ rfl;have q:=Zg (Zy hzX hmay'.out);have hz:=Zg hzX;clear hX ca hzX hmay';go_wp2_with fail;refine (q.out _).mono ?_;rintro r' w' ⟨rfl,x1,rfl⟩;clear q;go_wp2_with fail;refine (Xr.out _ ?_).mono ?_
 ·rw[hz.out,Zx];exact⟨_,rfl⟩
 rintro r' w' ⟨rfl,hT⟩;have Xs:=Zg hT;clear hT;go_wp2;go_ret;exact⟨rfl,Xs.out⟩
theorem FB(p:Pr)(act:Int)(e:Ex)(h:¬(e.ty p act).1=0):(e.ty p act).2=YV:=by
 rw[Ex.ty_eq]at h ⊢;have hl:∀o w hd nm,¬(Wf p act o w hd nm).1=0→(Wf p act o w hd nm).2=YV:=by
  intro o w hd nm h;unfold Wf at h ⊢;repeat' split at h
  all_goals simp_all
 have hs:∀o hi lo t,¬(Wv o hi lo t).1=0→(Wv o hi lo t).2=YV:=by
  intro o hi lo t h;unfold Wv at h ⊢;repeat' split at h
  all_goals simp_all
 have hp:∀o n m s t,¬(Ua o n m s t).1=0→(Ua o n m s t).2=YV:=by
  intro o n m s t h;unfold Ua at h ⊢;by_cases q1:o=25∨o=26
  ·rw[if_pos q1]at h ⊢
   by_cases q2:(s.tr&&t.tr)=true
   ·rw[if_pos q2]at h;exact absurd rfl h
   ·rw[if_neg q2]
  rw[if_neg q1]at h ⊢;by_cases q3:o=11
  ·rw[if_pos q3]at h ⊢
   by_cases q4:Z7 s≠0
   ·rw[if_pos q4]
   rw[if_neg q4]at h ⊢;by_cases q5:Z7 t≠0
   ·rw[if_pos q5]
   rw[if_neg q5]at h ⊢;by_cases q6:128<s.w+t.w
   ·rw[if_pos q6]
   ·rw[if_neg q6]at h;exact absurd rfl h
  rw[if_neg q3]at h ⊢;by_cases q7:(Xv n m s t).1≠0
  ·rw[if_pos q7]
  rw[if_neg q7]at h;split at h <;> exact absurd rfl h
 cases he:e.args.map (fun x=>(x.ty p act,x.free)) with
 | nil=>rw[he]at h;exact hl _ _ _ _ h
 | cons a l =>
  rw[he]at h;obtain⟨r,n⟩:=a;simp only[Uw]at h ⊢;by_cases q:r.1≠0
  ·rw[if_pos q]
  rw[if_neg q]at h ⊢;by_cases o:e.op=14∨e.op=15
  ·rw[if_pos o]at h ⊢
   by_cases b:Z7 r.2≠0
   ·rw[if_pos b]
   ·rw[if_neg b]at h;exact absurd rfl h
  rw[if_neg o]at h ⊢;cases l with
  | nil=>exact hs _ _ _ _ h
  | cons d l =>
   obtain⟨s,m⟩:=d;simp only at h ⊢;by_cases b:s.1≠0
   ·rw[if_pos b]
   ·rw[if_neg b]at h ⊢;exact hp _ _ _ _ _ h
theorem Ma(V:World)(c d f g h:Array Value)(t u s r q:TypeId):∃X,((((V.alloc (.cells c t)).alloc (.cells d u)).alloc (.cells f s)).alloc (.cells g r)).alloc (.cells h q)=X∧(∃z,X=plus V z)∧X.heap.size=V.heap.size+5∧(∀o v,c[o]?=v→∀y,(plus X y).cell? ⟨V.heap.size,o,none⟩=v)∧(∀o v,d[o]?=v→∀y,(plus X y).cell? ⟨V.heap.size+1,o,none⟩=v)∧(∀o v,f[o]?=v→∀y,(plus X y).cell? ⟨V.heap.size+1+1,o,none⟩=v)∧(∀o v,g[o]?=v→∀y,(plus X y).cell? ⟨V.heap.size+1+1+1,o,none⟩=v)∧(∀o v,h[o]?=v→∀y,(plus X y).cell? ⟨V.heap.size+1+1+1+1,o,none⟩=v)∧(∀y o,(plus X y).frozen? ⟨V.heap.size+1+1+1,o,none⟩=false)∧(∀y o,(plus X y).frozen? ⟨V.heap.size+1+1+1+1,o,none⟩=false):=by
 obtain⟨W,hW,hB,hs,ca,cb,cc,fa,fb,fc⟩:=WL V c d f t u s;obtain⟨X,hX,Yz,ZD,cg,ch,fg,fh⟩:=Vy W g h r q;have Yq:W.heap.size=V.heap.size+1+1+1:=by omega
 rw[Yq]at cg ch fg fh;rw[←hW,←hX];obtain⟨z,hz⟩:=ZS hB;obtain⟨z2,Ym⟩:=ZS Yz;refine⟨X,rfl,⟨_,by rw[Ym,hz,Zx]⟩,by omega,?_,?_,?_,cg,ch,fg,fh⟩
 ·intro o v h y;rw[Ym,Zx];exact ca o v h _
 ·intro o v h y;rw[Ym,Zx];exact cb o v h _
 ·intro o v h y;rw[Ym,Zx];exact cc o v h _
structure TH (V:World) (b6 b8:Nat) (t:Ty) (U:World):Prop where
 rb:RB V b6 U
 q0:U.cell? ⟨b8,0,none⟩=some (.int .i64 t.w)
 q1:U.cell? ⟨b8,1,none⟩=some (.bool t.tr)
 q2:U.cell? ⟨b8,2,none⟩=some (.bool t.fr)
theorem TH.setO{V U:World}{b6 b8 n:Nat}{t:Ty}(h:TH V b6 b8 t U)(hn:V.heap.size≤n)(h6:n≠b6)(h8:n≠b8)(o:Nat)(v:Value):TH V b6 b8 t (U.setCell ⟨n,o,none⟩ v):=by
 have n6:∀k,(⟨n,o,none⟩:Addr)≠⟨b6,k,none⟩:=fun k c=>h6 (by injection c);have n8:∀k,(⟨n,o,none⟩:Addr)≠⟨b8,k,none⟩:=fun k c=>h8 (by injection c);obtain⟨⟨⟨z,rfl⟩,lo,r0,r1,r2,rf⟩,q0,q1,q2⟩:=h;exact⟨⟨ZS ((Z9 V z).setCell (by simpa using hn) v),lo,(Zu _ _ _ _ (n6 0)).trans r0,(Zu _ _ _ _ (n6 1)).trans r1,(Zu _ _ _ _ (n6 2)).trans r2,fun k=>by rw[World.frozen?_setCell];exact rf k⟩,
  (Zu _ _ _ _ (n8 0)).trans q0,(Zu _ _ _ _ (n8 1)).trans q1,(Zu _ _ _ _ (n8 2)).trans q2⟩
theorem IJ{V W1:World}{b6 b8:Nat}{t:Ty}{R:Int}{x:ZA}(h6:RB V b6 (plus W1 x))(h8:V.heap.size≤b8)(YP:b8≠b6)(q0:(plus W1 x).cell? ⟨b8,0,none⟩=some (.int .i64 0))(q1:(plus W1 x).cell? ⟨b8,1,none⟩=some (.bool false))(q2:(plus W1 x).cell? ⟨b8,2,none⟩=some (.bool false))(ht:¬R=0→t=YV) :
  TH V b6 b8 t (if R=0 then (((plus W1 x).setCell ⟨b8,0,none⟩ (.int .i64 t.w)).setCell ⟨b8,1,none⟩ (.bool t.tr)).setCell ⟨b8,2,none⟩ (.bool t.fr) else plus W1 x):=by
 by_cases hR:R=0
 ·rw[if_pos hR]
  obtain⟨Y,hY,g0,g1,g2,hx⟩:=Nc h6.up b8 h8 _ _ _ (.int .i64 t.w) (.bool t.tr) (.bool t.fr) q0 q1 q2;have hn:∀i k,(⟨b8,i,none⟩:Addr)≠⟨b6,k,none⟩:=fun i k c=>YP (by injection c);refine⟨⟨by rw[hY];exact hx,h6.low,?_,?_,?_,?_⟩,by rw[hY];exact g0,by rw[hY];exact g1,by rw[hY];exact g2⟩
  ·rw[Zu (h:=hn 2 0),Zu (h:=hn 1 0),Zu (h:=hn 0 0)];exact h6.r0
  ·rw[Zu (h:=hn 2 1),Zu (h:=hn 1 1),Zu (h:=hn 0 1)];exact h6.r1
  ·rw[Zu (h:=hn 2 2),Zu (h:=hn 1 2),Zu (h:=hn 0 2)];exact h6.r2
  ·intro o;rw[World.frozen?_setCell,World.frozen?_setCell,World.frozen?_setCell];exact h6.rf o
 ·rw[if_neg hR,ht hR]
  exact⟨h6,q0,q1,q2⟩
theorem G9(p:Pr)(hz:p.sz≤1048576)(hW:ST p)(act)(e:Ex)(hm:e.may 16=true)(w:World)(ZQ:p.In w)(he:e.In w)(hb:e.wt≤1048576) :
  Kp Zr w 35 #[.agg #[.slice p.headers.p p.headers.l.length p.headers.cap,.slice p.metas.p p.metas.l.length p.metas.cap,.slice p.states.p p.states.l.length p.states.cap,.slice p.actions.p p.actions.l.length p.actions.cap,.slice p.tables.p p.tables.l.length p.tables.cap,.slice p.control.p p.control.l.length p.control.cap,.slice p.emit.p p.emit.l.length p.emit.cap],.int .i64 act,e.val] (Fz (e.ty p act)):=by
 intro y0;have kt:=(Fl p hz hW act e 16 w hm ZQ he hb).up y0;have he:=he.plus y0;have UJ:=fun V (h:e.In V)=>NU e V h hb;have S8:=FB p act e;obtain⟨V,hV⟩:=Zv (plus w y0);rw[hV]at kt he ⊢;clear hV ZQ;obtain⟨⟨R,t⟩,hR⟩:∃R,e.ty p act=R:=⟨_,rfl⟩;rw[hR]at kt S8 ⊢;clear hR;simp only at S8 kt ⊢;have kch:∀X:World,(∃z,X=plus V z)→∀(g:Value) (T:World→Prop),(∀W,(∃z,W=plus X z)→Calls Zr 107 #[g] W fun e w'=>e=.returned (.int .i64 R)∧T w')→Calls Zr 61 #[e.val,g] X fun e w'=>e=.returned (.int .i64 R)∧T w' :=
  fun X hX g T h=>by
   have hXe:e.In X:=by obtain⟨z,rfl⟩:=hX;exact he.plus z
   exact Fb e X hm (UJ X hXe) g R T h
 clear UJ hm he hb hz hW;obtain⟨⟨p0,k0,l0⟩,⟨p1,k1,l1⟩,⟨p2,k2,l2⟩,⟨p3,k3,l3⟩,⟨p4,k4,l4⟩,⟨p5,k5,l5⟩,⟨p6,k6,l6⟩⟩:=p;obtain⟨op,⟨lw,lh,ll⟩,hd,nm,eh,el,ep,ec,eargs⟩:=e;simp only[Ex.val,Ex.cells,Ex.op,Ex.lit,Ex.head,Ex.name,Ex.hi,Ex.lo,Ex.p,Ex.args,Ex.cap]at kch kt ⊢;obtain⟨M,hM⟩:=Zv eargs.length;obtain⟨n0,h0⟩:=Zv l0.length;obtain⟨n1,h1⟩:=Zv l1.length;obtain⟨n2,h2⟩:=Zv l2.length;obtain⟨n3,h3⟩:=Zv l3.length;obtain⟨n4,h4⟩:=Zv l4.length;obtain⟨n5,h5⟩:=Zv l5.length;obtain⟨n6,h6⟩:=Zv l6.length;rw[hM]at kch kt ⊢;simp only[UU,h0,h1,h2,h3,h4,h5,h6]at kt ⊢;clear hM h0 h1 h2 h3 h4 h5 h6;have kch':=Zg kch;have kt':=Zg kt;have ZJ:=Zg S8;clear kch kt S8;go_enter func35,ntmps35;go_wp2_with fail;obtain⟨X,hX,⟨zX,hzX⟩,Yq,ca,cb,cc,cd,ce,fd,fe⟩:=Ma V _ _ _ _ _ 76 3 65 101 101;rw[hX];refine (kch'.out X ⟨zX,hzX⟩ _ (TH V (V.heap.size+1+1+1) (V.heap.size+1+1+1+1) t) ?_).mono ?_
 ·rintro W ⟨z,rfl⟩
  have hG:∀w,(callFunc 62 #[.pointer (some ⟨V.heap.size,0,none⟩),.pointer (some ⟨V.heap.size+1,0,none⟩),.pointer (some ⟨V.heap.size+1+1,0,none⟩),.pointer (some ⟨V.heap.size+1+1+1+1,0,none⟩)]).run Zr w=.ok (.enter 62 #[.pointer (some ⟨V.heap.size,0,none⟩),.pointer (some ⟨V.heap.size+1,0,none⟩),.pointer (some ⟨V.heap.size+1+1,0,none⟩),.pointer (some ⟨V.heap.size+1+1+1+1,0,none⟩)]) w:=by
   intro w;simp[go_sem]
  have hxs:=Tu X z;refine (Fa (plus X z) _ _ hG R (TH V (V.heap.size+1+1+1) (V.heap.size+1+1+1+1) t) ?_).mono ?_
  ·obtain⟨W1,hA⟩:=Zv ((plus X z).alloc (.cells #[.int .i64 0] 66))
   have m0:W1.cell? ⟨(plus X z).heap.size,0,none⟩=some (.int .i64 0):=by rw[←hA];exact Z4 _ _ _ _ 0 rfl
   have mf:∀o,W1.frozen? ⟨(plus X z).heap.size,o,none⟩=false:=fun o=>by rw[←hA];exact Vm _ _ _ _ o rfl
   have Zz:(plus X z).heap.size<W1.heap.size:=by rw[←hA];simp
   obtain⟨z1,hW1⟩:∃z1,W1=plus X z1:=by rw[←hA];exact QO _
   rw[hA];clear hA;obtain⟨n,hn⟩:=Zv ((plus X z).heap.size);rw[hn]at m0 mf Zz hxs ⊢;have hk:Calls Zr 63 #[.agg #[.slice p0 n0 k0,.slice p1 n1 k1,.slice p2 n2 k2,.slice p3 n3 k3,.slice p4 n4 k4,.slice p5 n5 k5,.slice p6 n6 k6,.int .i64 act],.agg #[.int .u8 op,.int .i64 lw,.int .u64 lh,.int .u64 ll,.string hd,.string nm,.int .i64 eh,.int .i64 el,.slice ep M ec]] W1 fun e w'=>e=Z5 R t.v∧∃x,w'=plus W1 x:=by
    rw[hW1,hzX,Zx];exact kt'.out _
   refine (II _ _ _ _ _ _ _ _ _ _ _ _ _ _ _ _ _ _ _ _ _ _ _ _ _ _ _ _ _ _ _ _ _ _ W1 V.heap.size (V.heap.size+1) (V.heap.size+1+1) (V.heap.size+1+1+1+1) hk (by rw[hW1];exact ca 0 _ rfl z1) (by rw[hW1];exact ca 1 _ rfl z1) (by rw[hW1];exact ca 2 _ rfl z1) (by rw[hW1];exact ca 3 _ rfl z1) (by rw[hW1];exact ca 4 _ rfl z1) (by rw[hW1];exact ca 5 _ rfl z1) (by rw[hW1];exact ca 6 _ rfl z1) (by rw[hW1];exact cb 0 _ rfl z1) (by rw[hW1];exact cc 0 _ rfl z1) (by rw[hW1];exact cc 1 _ rfl z1) (by rw[hW1];exact cc 2 _ rfl z1) (by rw[hW1];exact cc 3 _ rfl z1) (by rw[hW1];exact cc 4 _ rfl z1) (by rw[hW1];exact cc 5 _ rfl z1) (by rw[hW1];exact cc 6 _ rfl z1) (by rw[hW1];exact cc 7 _ rfl z1) (by rw[hW1];exact cc 8 _ rfl z1) (by rw[hW1];exact ce 0 _ rfl z1) (by rw[hW1];exact ce 1 _ rfl z1) (by rw[hW1];exact ce 2 _ rfl z1) (fun o=>by rw[hW1];exact fe z1 o) R t rfl).mono ?_;rintro e w' ⟨rfl,x,rfl⟩;have hrb:RB V (V.heap.size+1+1+1) (plus W1 x):=by rw[hW1,Zx];exact YM ⟨zX,hzX⟩ (by omega) cd fd _
   refine⟨rfl,IJ hrb (by omega) (by omega) (by rw[hW1,Zx];exact ce 0 _ rfl _) (by rw[hW1,Zx];exact ce 1 _ rfl _) (by rw[hW1,Zx];exact ce 2 _ rfl _) ZJ.out,?_,fun o=>?_⟩
   ·have YP:∀i k,(⟨V.heap.size+1+1+1+1,i,none⟩:Addr)≠⟨n,k,none⟩:=fun i k c=>by
     have:V.heap.size+1+1+1+1=n:=by injection c
     omega
    have m1:(plus W1 x).cell? ⟨n,0,none⟩=some (.int .i64 0):=(YO W1 x n 0 Zz).trans m0;split
    ·rw[Zu (h:=YP 2 0),Zu (h:=YP 1 0),Zu (h:=YP 0 0)];exact m1
    ·exact m1
   ·have m1:(plus W1 x).frozen? ⟨n,o,none⟩=false:=(TX W1 x n o Zz).trans (mf o)
    split
    ·rw[World.frozen?_setCell,World.frozen?_setCell,World.frozen?_setCell];exact m1
    ·exact m1
  ·rintro e w' ⟨rfl,U,hU,rfl⟩
   exact⟨rfl,hU.setO (by omega) (by omega) (by omega) 0 _⟩
 rintro r w' ⟨rfl,hT⟩;clear kch' kt' ZJ ca cb cc cd ce fd fe hX hzX Yq;have r0:=hT.rb.r0;have r1:=hT.rb.r1;have r2:=hT.rb.r2;have rf:=hT.rb.rf;have q0:=hT.q0;have q1:=hT.q1;have q2:=hT.q2;have YS:=Zg hT.rb;clear hT;obtain⟨tw,tt,tf⟩:=t;go_wp2;obtain⟨Z,hZ,g0,g1,g2,hV⟩:=YS.out.set ⟨tw,tt,tf⟩;simp only at hZ;rw[hZ];clear hZ;exact bodyPost_ret (v:=.tuple #[.agg #[.int .i64 tw,.bool tt,.bool tf],.int .i64 R]) (by simp[results,Tryz.results35,go_sem,g0,g1,g2]) rfl ⟨rfl,hV⟩
open Go.RowKit Go.Shelf
theorem K7(lw lh ll eh el hd nm ap an ac w):Kp Zr w 147 #[.agg #[.int .u8 5,.int .i64 lw,.int .u64 lh,.int .u64 ll,.string hd,.string nm,.int .i64 eh,.int .i64 el,.slice ap an ac]] (.bool false):=by
 intro y0;obtain⟨X,Y0,eX,⟨zX,hzX⟩,ca⟩:=Ya (plus w y0) #[.int .u8 5,.int .i64 lw,.int .u64 lh,.int .u64 ll,.string hd,.string nm,.int .i64 eh,.int .i64 el,.slice ap an ac] 65;have c0:=ca 0 _ rfl Y0;have eX':=Zg eX;have hzX':=Zg hzX;clear ca eX hzX;go_enter func147,ntmps147;go_upto_region 1 with (fail)
 rw[eX'.out];go_loopw [3] (fun _ wr=>wr=Go.Proofs.YtheaknidbcbneaaGreat.plus X Y0) (fun _ _=>0)
 case atStart=>rfl
 case round =>
  obtain rfl:=hrel;go_wp2;go_ret;exact⟨rfl,by rw[hzX'.out,Zx];exact⟨_,rfl⟩⟩
theorem KJ(q0p q0n q0c q1p q1n q1c q2p q2n q2c q3p q3n q3c q4p q4n q4c q5p q5n q5c q6p q6n q6c act free)(r:Nat)(elw elh ell eeh eel ehd enm)(pb po eac:Nat)(l:List Nd)(w:World)(h2:Ww w 69 #[.agg #[.slice q0p q0n q0c,.slice q1p q1n q1c,.slice q2p q2n q2c,.slice q3p q3n q3c,.slice q4p q4n q4c,.slice q5p q5n q5c,.slice q6p q6n q6c,.int .i64 act,.map (some r)],.agg #[.int .u8 23,.int .i64 elw,.int .u64 elh,.int .u64 ell,.string ehd,.string enm,.int .i64 eeh,.int .i64 eel,.slice (some ⟨pb,po,none⟩) 2 eac]] l):Ww w 37 #[.agg #[.slice q0p q0n q0c,.slice q1p q1n q1c,.slice q2p q2n q2c,.slice q3p q3n q3c,.slice q4p q4n q4c,.slice q5p q5n q5c,.slice q6p q6n q6c,.int .i64 act,.map (some r)],.agg #[.int .u8 23,.int .i64 elw,.int .u64 elh,.int .u64 ell,.string ehd,.string enm,.int .i64 eeh,.int .i64 eel,.slice (some ⟨pb,po,none⟩) 2 eac],.int .i64 free] l:=by
 intro V hV;obtain⟨W,yy,hW,⟨z,hz⟩,cb0,cb1⟩:=ZF V #[.slice q0p q0n q0c,.slice q1p q1n q1c,.slice q2p q2n q2c,.slice q3p q3n q3c,.slice q4p q4n q4c,.slice q5p q5n q5c,.slice q6p q6n q6c,.int .i64 act,.map (some r)] #[.int .u8 23,.int .i64 elw,.int .u64 elh,.int .u64 ell,.string ehd,.string enm,.int .i64 eeh,.int .i64 eel,.slice (some ⟨pb,po,none⟩) 2 eac] 106 65;have c0_0:=cb0 0 _ rfl;have c0_1:=cb0 1 _ rfl;have c0_2:=cb0 2 _ rfl;have c0_3:=cb0 3 _ rfl;have c0_4:=cb0 4 _ rfl;have c0_5:=cb0 5 _ rfl;have c0_6:=cb0 6 _ rfl;have c0_7:=cb0 7 _ rfl;have c0_8:=cb0 8 _ rfl;have c1_0:=cb1 0 _ rfl;have c1_1:=cb1 1 _ rfl;have c1_2:=cb1 2 _ rfl;have c1_3:=cb1 3 _ rfl;have c1_4:=cb1 4 _ rfl;have c1_5:=cb1 5 _ rfl;have c1_6:=cb1 6 _ rfl;have c1_7:=cb1 7 _ rfl;have c1_8:=cb1 8 _ rfl;have ZY:Below V.heap.size V (Go.Proofs.YtheaknidbcbneaaGreat.plus W yy):=by rw[hz,Zx];exact Z9 V _
 have q2:=Zg (h2 (Go.Proofs.YtheaknidbcbneaaGreat.plus W yy) (hV.trans (ZY.mono hV.size)));have ZH:=Zg hW;have YG:=Zg ZY;clear h2 hW hz cb0 cb1 ZY hV;go_enter func37,ntmps37;go_upto_region 1 with (fail)
 rw[ZH.out];go_wp2_with fail;refine q2.out.mono ?_;rintro e w' ⟨v,rfl,⟨y2,rfl⟩,ho⟩;have hF:=Zg (ho.lower YG.out.size);have hE:=Zg (YG.out.trans ((Z9 _ y2).mono YG.out.size));clear ho;go_wp2_with fail;go_ret;exact⟨v,rfl,ZS hE.out,hF.out⟩
theorem Ip(op a b c d e)(w:World):(binOp .neq 79 (.agg #[.int .u8 op,.int .i64 a,.int .i64 b,.int .i64 c,.int .u64 d,.int .u64 e]) (.agg #[.int .u8 op,.int .i64 a,.int .i64 b,.int .i64 c,.int .u64 d,.int .u64 e])).run Zr w=.ok (.bool false) w:=by
 go_simp
theorem Gt(p q:Option Addr)(n c d:Nat)(l:List Nd)(w:World)(hp:Z2 w 6 Nd.cells p l)(hq:Z2 w 6 Nd.cells q l)(hn:l.length=n)(hb:n≤1048576):Kp Zr w 14 #[.slice p n c,.slice q n d] (.bool true):=by
 intro y0;have hp:=hp.plus y0;have hq:=hq.plus y0;obtain⟨V,hV⟩:=Zv (plus w y0);rw[hV]at hp hq ⊢;clear hV;have hp':=Zg (fun X (h:∃z,X=Go.Proofs.YtheaknidbcbneaaGreat.plus V z)=>(by obtain⟨z,rfl⟩:=h;exact hp.plus z:Z2 X 6 Nd.cells p l));have hq':=Zg (fun X (h:∃z,X=Go.Proofs.YtheaknidbcbneaaGreat.plus V z)=>(by obtain⟨z,rfl⟩:=h;exact hq.plus z:Z2 X 6 Nd.cells q l));have ZJ:=Zg hn;have YI:=Zg hb;clear hp hq hn hb;have e1:((n:Int) !=(n:Int))=false:=by simp
 have e2:(n !=n)=false:=by simp
 go_enter func14,ntmps14;go_wp2_with fail;rw[←ZK V];go_loopw [5] (fun iv wr=>∃k:Nat,k≤n∧iv=.int .i64 (k:Int)∧∃y,wr=Go.Proofs.YtheaknidbcbneaaGreat.plus V y) (fun iv _=>n-(intOf iv).toNat)
 case atStart=>exact⟨0,Zq _,rfl,_,rfl⟩
 case round =>
  obtain⟨k,hk,rfl,y,rfl⟩:=hrel;by_cases Zz:k<n
  ·obtain⟨⟨op,nw,na,nb,⟨nh,nl⟩⟩,hx⟩:∃s,l[k]?=some s:=⟨l[k]'(by rw[ZJ.out];exact Zz),Zi _⟩
   obtain⟨pa,VO,-⟩:=hp'.out _ ⟨y,rfl⟩ k _ hx;subst VO;obtain⟨qa,hqa,-⟩:=hq'.out _ ⟨y,rfl⟩ k _ hx;subst hqa;have g1:∀z,ZG (Go.Proofs.YtheaknidbcbneaaGreat.plus V z) (pa.add (k*6)) [.int .u8 op,.int .i64 nw,.int .i64 na,.int .i64 nb,.int .u64 nh,.int .u64 nl]:=fun z=>by
    obtain⟨a,ha,hc⟩:=hp'.out _ ⟨z,rfl⟩ k _ hx;obtain rfl:=Option.some.inj ha;exact hc
   have g2:∀z,ZG (Go.Proofs.YtheaknidbcbneaaGreat.plus V z) (qa.add (k*6)) [.int .u8 op,.int .i64 nw,.int .i64 na,.int .i64 nb,.int .u64 nh,.int .u64 nl]:=fun z=>by
    obtain⟨a,ha,hc⟩:=hq'.out _ ⟨z,rfl⟩ k _ hx;obtain rfl:=Option.some.inj ha;exact hc
   have u0:=fun z=>(g1 z).c0 _ rfl;have u1:=fun z=>(g1 z).cs 0 _ rfl;have u2:=fun z=>(g1 z).cs 1 _ rfl;have u3:=fun z=>(g1 z).cs 2 _ rfl;have u4:=fun z=>(g1 z).cs 3 _ rfl;have u5:=fun z=>(g1 z).cs 4 _ rfl;have v0:=fun z=>(g2 z).c0 _ rfl;have v1:=fun z=>(g2 z).cs 0 _ rfl;have v2:=fun z=>(g2 z).cs 1 _ rfl;have v3:=fun z=>(g2 z).cs 2 _ rfl;have v4:=fun z=>(g2 z).cs 3 _ rfl;have v5:=fun z=>(g2 z).cs 4 _ rfl;have a6:=Zg (Yo k n Zz YI.out);have j0:¬((k:Int)<0):=by omega
   have j1:(k:Int)<(n:Int):=by omega
   have YP:=Ip op nw na nb nh nl;clear hx g1 g2;go_wp2_with fail;refine ZP (by kernel_rfl) (by kernel_rfl) ?_;repeat (go_big_quiet_step (fail))
   refine wpQuiet_nil ?_;rintro _ ⟨yd,rfl⟩;go_wp2_with fail;go_roundw
   case rel=>exact⟨k+1,Zz,congrArg (Zt .i64) a6.out,_,rfl⟩
   case measure=>exact YF k n Zz a6.out
  ·obtain rfl:k=n:=by omega
   go_wp2_with fail;go_ret;exact⟨rfl,_,rfl⟩
end Go.Proofs.YtheaknidbcbneaaGreat

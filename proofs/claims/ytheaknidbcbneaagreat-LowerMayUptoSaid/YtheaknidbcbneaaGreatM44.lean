/-
  WHAT IS PROVED HERE: a part of the proof (made narrower and merged by program; the parts: Lro Lrp).
-/
import Derived.Test.YtheaknidbcbneaaGreatM43
set_option maxRecDepth 100000
set_option maxHeartbeats 8000000
set_option linter.all false
namespace Go.Proofs.YtheaknidbcbneaaGreat
open Go.RowKit Go.Proofs.Tryz
open Bool renaming true_and→Ze
open Ending renaming returned→Zf
open Lib renaming hid→Zg
open List renaming getElem?_eq_getElem→Zi,mem_of_getElem?→Zl
open Nat renaming le_refl→Zp,zero_le→Zq
open Go.Proofs.Tryz renaming prog→Zr
open Value renaming bool→Zs,int→Zt
open Go.RowKit
def UL(kinds:List Int)(k:Nat):Bool:=match kinds[k]? with|some g=>decide (1≤g)&&decide (g≤3)|none=>false
def Wq(kinds:List Int)(k:Nat):Nat:=((kinds.take k).filter fun g=>g==2).length
theorem Q9(kinds:List Int)(k:Nat)(g:Int)(h:kinds[k]?=some g):Wq kinds (k+1)=Wq kinds k+(if g==2 then 1 else 0):=by
 unfold Wq;rw[List.take_add_one,h,List.filter_append,List.length_append];congr 1
 by_cases hg:(g==2)=true
 ·rw[if_pos hg];simp[hg]
 ·rw[if_neg hg];simp[hg]
theorem Mz(kinds:List Int)(k:Nat):Wq kinds k≤k:=by
 unfold Wq;exact Nat.le_trans (List.length_filter_le _ _) (by rw[List.length_take];omega)
def Sj(na:Nat)(wf:Sl Nd→Int × Bool)(keys:List (Sl Nd))(kinds:List Int)(an:Nat)(LB MB:Bool):Bool :=
 (decide (1≤keys.length)&&(decide (keys.length≤4)&&(decide (kinds.length=keys.length)&&(decide (1≤an)&&(decide (an≤16)&&LB)))))&&(ZU (fun k c=>(wf c).2&&UL kinds k) 0 keys&&(decide (Wq kinds keys.length<2)&&MB))
theorem GD(q0p q0n q0c q1p q1n q1c q2p q2n q2c q3p)(q3n q3c:Nat)(q4p q4n q4c q5p q5n q5c q6p q6n q6c q7p q7n q7c q8p q8n q8c q9p q9n q9c q10p q10n q10c q11p q11n q11c)(kp:Option Addr)(kn kc:Nat)(gp:Option Addr)(gn gc:Nat)(ap an ac ra xp xn xc)(keys:List (Sl Nd))(kinds:List Int)(wf:Sl Nd→Int × Bool)(LB MB)(w:World)(hK:Z2 w 1 YY kp keys)(hKn:keys.length=kn)(hG:Z2 w 1 (Z8 .u8) gp kinds)(hGn:kinds.length=gn)(hL:Kp Zr w 24 #[.slice ap an ac,.int .i64 (q3n:Int)] (.bool LB))(hM:Kp Zr w 11 #[.agg #[.slice q0p q0n q0c,.slice q1p q1n q1c,.slice q2p q2n q2c,.slice q3p q3n q3c,.slice q4p q4n q4c,.slice q5p q5n q5c,.slice q6p q6n q6c,.slice q7p q7n q7c,.slice q8p q8n q8c,.slice q9p q9n q9c,.slice q10p q10n q10c,.slice q11p q11n q11c],.slice ap an ac,.agg #[.int .i64 ra,.slice xp xn xc]] (.bool MB))(hW:∀c∈keys,Kp Zr w 7 #[.agg #[.slice q0p q0n q0c,.slice q1p q1n q1c,.slice q2p q2n q2c,.slice q3p q3n q3c,.slice q4p q4n q4c,.slice q5p q5n q5c,.slice q6p q6n q6c,.slice q7p q7n q7c,.slice q8p q8n q8c,.slice q9p q9n q9c,.slice q10p q10n q10c,.slice q11p q11n q11c],.int .i64 (-1),c.v] (.tuple #[.int .i64 (wf c).1,.bool (wf c).2])) :
  Kp Zr w 28 #[.agg #[.slice q0p q0n q0c,.slice q1p q1n q1c,.slice q2p q2n q2c,.slice q3p q3n q3c,.slice q4p q4n q4c,.slice q5p q5n q5c,.slice q6p q6n q6c,.slice q7p q7n q7c,.slice q8p q8n q8c,.slice q9p q9n q9c,.slice q10p q10n q10c,.slice q11p q11n q11c],.agg #[.slice kp kn kc,.slice gp gn gc,.slice ap an ac,.int .i64 ra,.slice xp xn xc]] (.bool (Sj q3n wf keys kinds an LB MB)):=by
 intro y0;have hK:=hK.plus y0;have hG:=hG.plus y0;have hL:=hL.up y0;have hM:=hM.up y0;have hW:∀c∈keys,Kp Zr (plus w y0) 7 #[.agg #[.slice q0p q0n q0c,.slice q1p q1n q1c,.slice q2p q2n q2c,.slice q3p q3n q3c,.slice q4p q4n q4c,.slice q5p q5n q5c,.slice q6p q6n q6c,.slice q7p q7n q7c,.slice q8p q8n q8c,.slice q9p q9n q9c,.slice q10p q10n q10c,.slice q11p q11n q11c],.int .i64 (-1),c.v] (.tuple #[.int .i64 (wf c).1,.bool (wf c).2]):=fun c hc=>(hW c hc).up y0;obtain⟨V,hV⟩:=Zv (plus w y0);rw[hV]at hK hG hL hM hW ⊢;clear hV;obtain⟨R,hR⟩:=Zv (Sj q3n wf keys kinds an LB MB:Bool);rw[hR];unfold Sj at hR;rw[hKn,hGn]at hR;obtain⟨W,yy,hWW,⟨z,hz⟩,cb0,cb1⟩:=ZF V #[.slice q0p q0n q0c,.slice q1p q1n q1c,.slice q2p q2n q2c,.slice q3p q3n q3c,.slice q4p q4n q4c,.slice q5p q5n q5c,.slice q6p q6n q6c,.slice q7p q7n q7c,.slice q8p q8n q8c,.slice q9p q9n q9c,.slice q10p q10n q10c,.slice q11p q11n q11c] #[.slice kp kn kc,.slice gp gn gc,.slice ap an ac,.int .i64 ra,.slice xp xn xc] 33 57;have c0_0:=cb0 0 _ rfl;have c0_1:=cb0 1 _ rfl;have c0_2:=cb0 2 _ rfl;have c0_3:=cb0 3 _ rfl;have c0_4:=cb0 4 _ rfl;have c0_5:=cb0 5 _ rfl;have c0_6:=cb0 6 _ rfl;have c0_7:=cb0 7 _ rfl;have c0_8:=cb0 8 _ rfl;have c0_9:=cb0 9 _ rfl;have c0_10:=cb0 10 _ rfl;have c0_11:=cb0 11 _ rfl;have c1_0:=cb1 0 _ rfl;have c1_1:=cb1 1 _ rfl;have c1_2:=cb1 2 _ rfl;have c1_3:=cb1 3 _ rfl;have c1_4:=cb1 4 _ rfl;have hK':Hid (∀(k:Nat) (c:Sl Nd),keys[k]?=some c→∃a,kp=some a∧∀y,(Go.Proofs.YtheaknidbcbneaaGreat.plus W y).cell? (a.add (k*1))=some c.v):=Zg fun k x hx=>by
  obtain⟨a,hp,hc⟩:=hK k x hx;exact⟨a,hp,fun y=>by rw[hz];exact ((hc.plus z).plus y).c0 _ rfl⟩
 have hG':Hid (∀(k:Nat) (x:Int),kinds[k]?=some x→∃a,gp=some a∧∀y,(Go.Proofs.YtheaknidbcbneaaGreat.plus W y).cell? (a.add (k*1))=some (.int .u8 x)):=Zg fun k x hx=>by
  obtain⟨a,hp,hc⟩:=hG k x hx;exact⟨a,hp,fun y=>by rw[hz];exact ((hc.plus z).plus y).c0 _ rfl⟩
 have hWf:Hid (∀c∈keys,Vh Zr W 7 #[.agg #[.slice q0p q0n q0c,.slice q1p q1n q1c,.slice q2p q2n q2c,.slice q3p q3n q3c,.slice q4p q4n q4c,.slice q5p q5n q5c,.slice q6p q6n q6c,.slice q7p q7n q7c,.slice q8p q8n q8c,.slice q9p q9n q9c,.slice q10p q10n q10c,.slice q11p q11n q11c],.int .i64 (-1),c.v] (.tuple #[.int .i64 (wf c).1,.bool (wf c).2])):=Zg fun c hc=>Zy hz (hW c hc);have qL:=Zg (Zy hz hL);have qM:=Zg (Zy hz hM);have ZH:=Zg hWW;have Zw:=Zg hz;have hKn':=Zg hKn;have hGn':=Zg hGn;clear hWW hz cb0 cb1 hK hG hL hM hW hKn hGn;by_cases h1:kn<1
 ·have n1:(kn:Int)<(1:Int):=by omega
  have n1b:decide ((kn:Int)<(1:Int))=true:=decide_eq_true n1;have m1:decide (kn<1)=true:=decide_eq_true (by omega);have hF:=Zg (show false=R by rw[←hR,decide_eq_false (show ¬1≤kn by omega)];simp);clear hR;go_enter func28,ntmps28;go_upto_region 1 with (fail)
  rw[ZH.out];go_wp2_with fail;go_ret;exact⟨congrArg (fun z=>Zf (Zs z)) hF.out,by rw[Zw.out,Zx];exact⟨_,rfl⟩⟩
 have n1:¬((kn:Int)<(1:Int)):=by omega
 have n1b:decide ((kn:Int)<(1:Int))=false:=decide_eq_false n1;have m1:decide (kn<1)=false:=decide_eq_false (by omega);rw[decide_eq_true (show 1≤kn by omega),Ze]at hR;by_cases h2:4<kn
 ·have n2:(4:Int)<(kn:Int):=by omega
  have n2b:decide ((4:Int)<(kn:Int))=true:=decide_eq_true n2;have m2:decide (4<kn)=true:=decide_eq_true (by omega);have hF:=Zg (show false=R by rw[←hR,decide_eq_false (show ¬kn≤4 by omega)];simp);clear hR;go_enter func28,ntmps28;go_upto_region 1 with (fail)
  rw[ZH.out];go_wp2_with fail;go_ret;exact⟨congrArg (fun z=>Zf (Zs z)) hF.out,by rw[Zw.out,Zx];exact⟨_,rfl⟩⟩
 have n2:¬((4:Int)<(kn:Int)):=by omega
 have n2b:decide ((4:Int)<(kn:Int))=false:=decide_eq_false n2;have m2:decide (4<kn)=false:=decide_eq_false (by omega);rw[decide_eq_true (show kn≤4 by omega),Ze]at hR;by_cases h3:gn=kn
 case neg =>
  have n3a:((gn:Int) !=(kn:Int))=true:=by rw[bne_iff_ne];omega
  have n3b:((gn:Int)==(kn:Int))=false:=by rw[beq_eq_false_iff_ne];omega
  have n3c:(gn !=kn)=true:=by simpa using h3
  have n3d:(gn==kn)=false:=by simpa using h3
  have hF:=Zg (show false=R by rw[←hR,decide_eq_false h3];simp);clear hR h3;go_enter func28,ntmps28;go_upto_region 1 with (fail)
  rw[ZH.out];go_wp2_with fail;go_ret;exact⟨congrArg (fun z=>Zf (Zs z)) hF.out,by rw[Zw.out,Zx];exact⟨_,rfl⟩⟩
 rw[decide_eq_true h3,Ze]at hR;subst h3;have n3a:((gn:Int) !=(gn:Int))=false:=by simp
 have n3c:(gn !=gn)=false:=by simp
 by_cases h4:an<1
 ·have n4:(an:Int)<(1:Int):=by omega
  have n4b:decide ((an:Int)<(1:Int))=true:=decide_eq_true n4;have m4:decide (an<1)=true:=decide_eq_true (by omega);have hF:=Zg (show false=R by rw[←hR,decide_eq_false (show ¬1≤an by omega)];simp);clear hR;go_enter func28,ntmps28;go_upto_region 1 with (fail)
  rw[ZH.out];go_wp2_with fail;go_ret;exact⟨congrArg (fun z=>Zf (Zs z)) hF.out,by rw[Zw.out,Zx];exact⟨_,rfl⟩⟩
 have n4:¬((an:Int)<(1:Int)):=by omega
 have n4b:decide ((an:Int)<(1:Int))=false:=decide_eq_false n4;have m4:decide (an<1)=false:=decide_eq_false (by omega);rw[decide_eq_true (show 1≤an by omega),Ze]at hR;by_cases h5:16<an
 ·have n5:(16:Int)<(an:Int):=by omega
  have n5b:decide ((16:Int)<(an:Int))=true:=decide_eq_true n5;have m5:decide (16<an)=true:=decide_eq_true (by omega);have hF:=Zg (show false=R by rw[←hR,decide_eq_false (show ¬an≤16 by omega)];simp);clear hR;go_enter func28,ntmps28;go_upto_region 1 with (fail)
  rw[ZH.out];go_wp2_with fail;go_ret;exact⟨congrArg (fun z=>Zf (Zs z)) hF.out,by rw[Zw.out,Zx];exact⟨_,rfl⟩⟩
 have n5:¬((16:Int)<(an:Int)):=by omega
 have n5b:decide ((16:Int)<(an:Int))=false:=decide_eq_false n5;have m5:decide (16<an)=false:=decide_eq_false (by omega);rw[decide_eq_true (show an≤16 by omega),Ze]at hR;cases LB with
 | false =>
  have hF:=Zg (show false=R by rw[←hR];rfl);clear hR;go_enter func28,ntmps28;go_upto_region 1 with (fail)
  rw[ZH.out];go_wp2_with fail;refine (qL.out _).mono ?_;rintro e9 w9 ⟨rfl,y9,rfl⟩;go_wp2_with fail;go_ret;exact⟨congrArg (fun z=>Zf (Zs z)) hF.out,by rw[Zw.out,Zx];exact⟨_,rfl⟩⟩
 | true =>
  rw[Ze]at hR;obtain⟨KA,hKA⟩:=Zv (ZU (fun k c=>(wf c).2&&UL kinds k) 0 keys:Bool);rw[hKA]at hR;have hKA0:Hid (ZU (fun k c=>(wf c).2&&UL kinds k) 0 (keys.drop 0)=KA):=Zg hKA;have hk4:Hid (gn≤4):=Zg (by omega);replace hR:=Zg hR;clear hKA h1 h2 h4 h5;go_enter func28,ntmps28;go_upto_region 1 with (fail)
  rw[ZH.out];go_wp2_with fail;refine (qL.out _).mono ?_;rintro e9 w9 ⟨rfl,y9,rfl⟩;go_wp2_with fail;go_loopw [5,6,7,8] (fun s5 iv _ _ wr=>∃k:Nat,k≤gn∧s5=.int .i64 (Wq kinds k:Int)∧iv=.int .i64 (k:Int)∧Hid (ZU (fun k c=>(wf c).2&&UL kinds k) k (keys.drop k)=KA)∧∃y,wr=Go.Proofs.YtheaknidbcbneaaGreat.plus W y) (fun _ iv _ _ _=>gn-(intOf iv).toNat)
  case atStart=>exact⟨0,Zq _,by simp[Wq],rfl,hKA0,_,rfl⟩
  case round =>
   clear hKA0;obtain⟨k,hk,rfl,rfl,hs,y,rfl⟩:=hrel;by_cases Zz:k<gn
   ·obtain⟨⟨cp,cc,cl⟩,hx⟩:∃c,keys[k]?=some c:=⟨keys[k]'(by rw[hKn'.out];exact Zz),Zi _⟩
    obtain⟨g,hg⟩:=Z6 kinds k (by rw[hGn'.out];exact Zz);obtain⟨pa,rfl,g1⟩:=hK'.out k _ hx;obtain⟨ga,rfl,g2⟩:=hG'.out k _ hg;have hq:=hWf.out _ (Zl hx);have ZB:=hs.out;rw[WK _ keys k _ hx]at ZB;have SE:=Q9 kinds k g hg;have Yr:=Mz kinds k;obtain⟨cn,Wa⟩:=Zv cl.length;obtain⟨WX,hWX⟩:=Zv ((wf ⟨cp,cc,cl⟩).1);obtain⟨WB,hWB⟩:=Zv ((wf ⟨cp,cc,cl⟩).2);rw[hWB,show UL kinds k=(decide (1≤g)&&decide (g≤3)) by unfold UL;rw[hg]]at ZB;rw[hWX,hWB]at hq;simp only[Sl.v,Wa]at hq g1;simp only[Nat.mul_one]at g1 g2;replace hq:=Zg hq;obtain⟨C,hC⟩:=Zv (Wq kinds k);rw[hC]at SE Yr ⊢;have a6:=Zg (Yo k gn Zz (by have:=hk4.out;omega));have a7:=Zg (Yo C gn (by omega) (by have:=hk4.out;omega));have j0:¬((k:Int)<0):=by omega
    have j1:(k:Int)<(gn:Int):=by omega
    replace SE:=Zg SE;clear hx hg hs hWX hWB Wa hC Yr;cases WB with
    | false =>
     have hF:=Zg (show false=R by rw[←hR.out,←ZB];simp);clear ZB hR;go_wp2_with fail;refine ZP (by kernel_rfl) (by kernel_rfl) ?_;repeat (go_big_quiet_step (first|(with_reducible exact hq.out _)|fail))
     refine wpQuiet_nil ?_;rintro _ ⟨yd,rfl⟩;go_wp2_with fail;go_ret;exact⟨congrArg (fun z=>Zf (Zs z)) hF.out,by rw[Zw.out,Zx];exact⟨_,rfl⟩⟩
    | true =>
     rw[Ze]at ZB;by_cases v1:g<1
     ·have v1b:decide (g<1)=true:=decide_eq_true v1
      have hF:=Zg (show false=R by rw[←hR.out,←ZB,decide_eq_false (show ¬1≤g by omega)];simp);clear ZB hR;go_wp2_with fail;refine ZP (by kernel_rfl) (by kernel_rfl) ?_;repeat (go_big_quiet_step (first|(with_reducible exact hq.out _)|fail))
      refine wpQuiet_nil ?_;rintro _ ⟨yd,rfl⟩;go_wp2_with fail;go_ret;exact⟨congrArg (fun z=>Zf (Zs z)) hF.out,by rw[Zw.out,Zx];exact⟨_,rfl⟩⟩
     ·have v1b:decide (g<1)=false:=decide_eq_false v1
      by_cases v2:3<g
      ·have v2b:decide (3<g)=true:=decide_eq_true v2
       have hF:=Zg (show false=R by rw[←hR.out,←ZB,decide_eq_false (show ¬g≤3 by omega)];simp);clear ZB hR;go_wp2_with fail;refine ZP (by kernel_rfl) (by kernel_rfl) ?_;repeat (go_big_quiet_step (first|(with_reducible exact hq.out _)|fail))
       refine wpQuiet_nil ?_;rintro _ ⟨yd,rfl⟩;go_wp2_with fail;go_ret;exact⟨congrArg (fun z=>Zf (Zs z)) hF.out,by rw[Zw.out,Zx];exact⟨_,rfl⟩⟩
      ·have v2b:decide (3<g)=false:=decide_eq_false v2
       rw[decide_eq_true (show 1≤g by omega),decide_eq_true (show g≤3 by omega),Ze,Ze]at ZB;replace ZB:=Zg ZB;by_cases v3:g=2
       ·have v3b:(g==2)=true:=by rw[v3];rfl
        have hs5:=Zg (show Wq kinds (k+1)=C+1 by rw[SE.out,v3b];rfl);clear v1 v2 v3;go_wp2_with fail;refine ZP (by kernel_rfl) (by kernel_rfl) ?_;repeat (go_big_quiet_step (first|(with_reducible exact hq.out _)|fail))
        refine wpQuiet_nil ?_;rintro _ ⟨yd,rfl⟩;go_wp2_with fail;go_roundw
        case rel=>exact⟨k+1,Zz,by rw[hs5.out];exact congrArg (Zt .i64) a7.out,congrArg (Zt .i64) (by omega),ZB,_,rfl⟩
        case measure=>exact Wg k gn Zz
       ·have v3b:(g==2)=false:=by simpa using v3
        have hs5:=Zg (show Wq kinds (k+1)=C by rw[SE.out,v3b];rfl);clear v1 v2 v3;go_wp2_with fail;refine ZP (by kernel_rfl) (by kernel_rfl) ?_;repeat (go_big_quiet_step (first|(with_reducible exact hq.out _)|fail))
        refine wpQuiet_nil ?_;rintro _ ⟨yd,rfl⟩;go_wp2_with fail;go_roundw
        case rel=>exact⟨k+1,Zz,by rw[hs5.out],congrArg (Zt .i64) (by omega),ZB,_,rfl⟩
        case measure=>exact Wg k gn Zz
   ·obtain rfl:k=gn:=by omega
    have Yj:=hR.out;rw[←hs.out,SU _ _ _ _ (by rw[hKn'.out];exact Zp _),Ze]at Yj;clear hs hR;obtain⟨C,hC⟩:=Zv (Wq kinds k);rw[hC]at Yj ⊢;clear hC;by_cases v1:C<2
    ·have v1a:(C:Int)<2:=by omega
     have v1b:decide ((C:Int)<2)=true:=decide_eq_true v1a;rw[decide_eq_true v1,Ze]at Yj;have hF:=Zg Yj;clear Yj v1;go_wp2_with fail;refine (qM.out _).mono ?_;rintro e9 w9 ⟨rfl,y8,rfl⟩;go_wp2_with fail;go_ret;exact⟨congrArg (fun z=>Zf (Zs z)) hF.out,by rw[Zw.out,Zx];exact⟨_,rfl⟩⟩
    ·have v1a:¬(C:Int)<2:=by omega
     have v1b:decide ((C:Int)<2)=false:=decide_eq_false v1a;have hF:=Zg (show false=R by rw[←Yj,decide_eq_false v1];rfl);clear Yj v1;go_wp2_with fail;go_ret;exact⟨congrArg (fun z=>Zf (Zs z)) hF.out,by rw[Zw.out,Zx];exact⟨_,rfl⟩⟩
theorem GC(p:Pg)(t:Tb)(w:World)(hp:p.In w)(ht:t.In w)(hl:t.acts.l.length≤1048576)(XB:t.dflt.args.l.length≤1048576) :
  Kp Zr w 28 #[p.val,.agg #[t.keys.v,t.kinds.v,t.acts.v,.int .i64 t.dflt.act,t.dflt.args.v]] (.bool (Sj p.acts.l.length (fun c=>YR (p.env (-1)) c.l) t.keys.l t.kinds.l t.acts.l.length (ZU (X7 p.acts.l.length t.acts.l) 0 t.acts.l) (UQ p t.acts.l t.dflt.act t.dflt.args.l))) :=
 GD p.heads.p p.heads.l.length p.heads.cap p.metas.p p.metas.l.length p.metas.cap p.steps.p p.steps.l.length p.steps.cap p.acts.p p.acts.l.length p.acts.cap p.tabs.p p.tabs.l.length p.tabs.cap p.control.p p.control.l.length p.control.cap p.emit.p p.emit.l.length p.emit.cap p.names.headers.p p.names.headers.l.length p.names.headers.cap p.names.fields.p p.names.fields.l.length p.names.fields.cap p.names.metas.p p.names.metas.l.length p.names.metas.cap p.names.actions.p p.names.actions.l.length p.names.actions.cap p.names.tables.p p.names.tables.l.length p.names.tables.cap t.keys.p t.keys.l.length t.keys.cap t.kinds.p t.kinds.l.length t.kinds.cap t.acts.p t.acts.l.length t.acts.cap t.dflt.act t.dflt.args.p t.dflt.args.l.length t.dflt.args.cap t.keys.l t.kinds.l (fun c=>YR (p.env (-1)) c.l) _ _ w ht.keys.row rfl ht.kinds.row rfl (Oy t.acts p.acts.l.length w ht.acts hl) (Ow p t.acts t.dflt w hp ht.acts ht.dflt hl XB) (fun c hc=>Rk p (-1) c w hp (ht.keys.kids c hc))
theorem GA(p:Pg)(s:Sp)(w:World)(hp:p.In w)(hs:s.In w) :
  Kp Zr w 26 #[p.val,.agg #[s.takes.v,s.keys.v,s.branches.v,.int .i64 s.dest]] (.bool (Tw p.heads.l.length p.steps.l.length (fun c=>YR (p.env (-1)) c.l) s.takes.l s.keys.l s.branches.l s.dest)) :=
 GB p.heads.p p.heads.l.length p.heads.cap p.metas.p p.metas.l.length p.metas.cap p.steps.p p.steps.l.length p.steps.cap p.acts.p p.acts.l.length p.acts.cap p.tabs.p p.tabs.l.length p.tabs.cap p.control.p p.control.l.length p.control.cap p.emit.p p.emit.l.length p.emit.cap p.names.headers.p p.names.headers.l.length p.names.headers.cap p.names.fields.p p.names.fields.l.length p.names.fields.cap p.names.metas.p p.names.metas.l.length p.names.metas.cap p.names.actions.p p.names.actions.l.length p.names.actions.cap p.names.tables.p p.names.tables.l.length p.names.tables.cap s.takes.p s.takes.l.length s.takes.cap s.keys.p s.keys.l.length s.keys.cap s.branches.p s.branches.l.length s.branches.cap s.dest s.takes.l s.keys.l s.branches.l (fun c=>YR (p.env (-1)) c.l) w hs.takes.row rfl hs.keys.row rfl hs.branches.row rfl hs.branches.kids (fun c hc=>Rk p (-1) c w hp (hs.keys.kids c hc))
theorem QL:∀(l:List Int) (k:Nat),ZU Yv k l=l.all (Yv 0)
 | [],_=>rfl
 | a :: l,k=>by
  show (Yv k a&&ZU Yv (k+1) l)=(Yv 0 a&&l.all (Yv 0))
  rw[QL l (k+1)];rfl
def Tg(fields:List (Sl ByteArray))(i:Nat)(h:Sl Int):Bool:=VV h.l&&(match fields[i]? with|some f=>decide (f.l.length=h.l.length)|none=>false)
def Un(hn:Nat)(heads:List (Sl Int))(fields:List (Sl ByteArray)):Bool:=(decide (heads.length≤8)&&(decide (hn=heads.length)&&decide (fields.length=heads.length)))&&ZU (Tg fields) 0 heads
theorem Ln(l:List Int):VV l=((decide (1≤l.length)&&(decide (l.length≤16)&&l.all (Yv 0)))&&(l.sum % 8==0&&decide (l.sum≤256))):=by
 unfold VV ZM;rw[QL,show decide ((1:Int)≤(l.length:Int))=decide (1≤l.length) by congr 1;apply propext;omega,show decide ((l.length:Int)≤16)=decide (l.length≤16) by congr 1;apply propext;omega];simp only[Bool.and_assoc]
theorem HM(q0p:Option Addr)(q0n q0c:Nat)(q1p q1n q1c q2p q2n q2c q3p q3n q3c q4p q4n q4c q5p q5n q5c q6p q6n q6c q7p q7n q7c)(q8p:Option Addr)(q8n q8c:Nat)(q9p q9n q9c q10p q10n q10c q11p q11n q11c)(heads:List (Sl Int))(fields:List (Sl ByteArray))(w:World)(hH:Z2 w 1 YY q0p heads)(hHn:heads.length=q0n)(hN:Z2 w 1 YY q8p fields)(hNn:fields.length=q8n)(hHk:∀h∈heads,Z2 w 1 (Z8 .i64) h.p h.l)(hb:∀h∈heads,h.l.length≤1048576)(hWd:∀h∈heads,Kp Zr w 23 #[h.v] (.bool (h.l.all (Yv 0)))) :
  Kp Zr w 22 #[.agg #[.slice q0p q0n q0c,.slice q1p q1n q1c,.slice q2p q2n q2c,.slice q3p q3n q3c,.slice q4p q4n q4c,.slice q5p q5n q5c,.slice q6p q6n q6c,.slice q7p q7n q7c,.slice q8p q8n q8c,.slice q9p q9n q9c,.slice q10p q10n q10c,.slice q11p q11n q11c]] (.bool (Un q7n heads fields)):=by
 intro y0;have hH:=hH.plus y0;have hN:=hN.plus y0;have hHk:∀h∈heads,Z2 (plus w y0) 1 (Z8 .i64) h.p h.l:=fun h hh=>(hHk h hh).plus y0;have hWd:∀h∈heads,Kp Zr (plus w y0) 23 #[h.v] (.bool (h.l.all (Yv 0))):=fun h hh=>(hWd h hh).up y0;obtain⟨V,hV⟩:=Zv (plus w y0);rw[hV]at hH hN hHk hWd ⊢;clear hV;obtain⟨R,hR⟩:=Zv (Un q7n heads fields:Bool);rw[hR];unfold Un at hR;rw[hHn,hNn]at hR;obtain⟨W,yy,hWW,⟨z,hz⟩,cb0⟩:=Ya V #[.slice q0p q0n q0c,.slice q1p q1n q1c,.slice q2p q2n q2c,.slice q3p q3n q3c,.slice q4p q4n q4c,.slice q5p q5n q5c,.slice q6p q6n q6c,.slice q7p q7n q7c,.slice q8p q8n q8c,.slice q9p q9n q9c,.slice q10p q10n q10c,.slice q11p q11n q11c] 33;have c0_0:=cb0 0 _ rfl;have c0_1:=cb0 1 _ rfl;have c0_2:=cb0 2 _ rfl;have c0_3:=cb0 3 _ rfl;have c0_4:=cb0 4 _ rfl;have c0_5:=cb0 5 _ rfl;have c0_6:=cb0 6 _ rfl;have c0_7:=cb0 7 _ rfl;have c0_8:=cb0 8 _ rfl;have c0_9:=cb0 9 _ rfl;have c0_10:=cb0 10 _ rfl;have c0_11:=cb0 11 _ rfl;have hH':Hid (∀(k:Nat) (c:Sl Int),heads[k]?=some c→∃a,q0p=some a∧∀y,(Go.Proofs.YtheaknidbcbneaaGreat.plus W y).cell? (a.add (k*1))=some c.v):=Zg fun k x hx=>by
  obtain⟨a,hp,hc⟩:=hH k x hx;exact⟨a,hp,fun y=>by rw[hz];exact ((hc.plus z).plus y).c0 _ rfl⟩
 have XT:Hid (∀(k:Nat) (c:Sl ByteArray),fields[k]?=some c→∃a,q8p=some a∧∀y,(Go.Proofs.YtheaknidbcbneaaGreat.plus W y).cell? (a.add (k*1))=some c.v):=Zg fun k x hx=>by
  obtain⟨a,hp,hc⟩:=hN k x hx;exact⟨a,hp,fun y=>by rw[hz];exact ((hc.plus z).plus y).c0 _ rfl⟩
 have hK':Hid (∀h∈heads,∀(k:Nat) (x:Int),h.l[k]?=some x→∃a,h.p=some a∧∀y,(Go.Proofs.YtheaknidbcbneaaGreat.plus W y).cell? (a.add (k*1))=some (.int .i64 x)):=Zg fun h hh k x hx=>by
  obtain⟨a,hp,hc⟩:=hHk h hh k x hx;exact⟨a,hp,fun y=>by rw[hz];exact ((hc.plus z).plus y).c0 _ rfl⟩
 have hWf:Hid (∀h∈heads,Vh Zr W 23 #[h.v] (.bool (h.l.all (Yv 0)))):=Zg fun c hc=>Zy hz (hWd c hc);have ZH:=Zg hWW;have Zw:=Zg hz;have hHn':=Zg hHn;have hNn':=Zg hNn;have YI:=Zg hb;clear hWW hz cb0 hH hN hHk hWd hHn hNn hb;by_cases h1:8<q0n
 ·have hF:=Zg (show false=R by rw[←hR,decide_eq_false (show ¬q0n≤8 by omega)];simp)
  clear hR;have n1:(8:Int)<(q0n:Int):=by omega
  have n1b:decide ((8:Int)<(q0n:Int))=true:=decide_eq_true n1;have m1:decide (8<q0n)=true:=decide_eq_true (by omega);go_enter func22,ntmps22;go_upto_region 1 with (fail)
  rw[ZH.out];go_wp2_with fail;go_ret;exact⟨congrArg (fun z=>Zf (Zs z)) hF.out,by rw[Zw.out,Zx];exact⟨_,rfl⟩⟩
 rw[decide_eq_true (show q0n≤8 by omega),Ze]at hR;have n1:¬((8:Int)<(q0n:Int)):=by omega
 have n1b:decide ((8:Int)<(q0n:Int))=false:=decide_eq_false n1;have m1:decide (8<q0n)=false:=decide_eq_false (by omega);by_cases h2:q7n=q0n
 case neg =>
  have hF:=Zg (show false=R by rw[←hR,decide_eq_false h2];simp);clear hR;have n2a:((q7n:Int) !=(q0n:Int))=true:=by rw[bne_iff_ne];omega
  have n2b:((q7n:Int)==(q0n:Int))=false:=by rw[beq_eq_false_iff_ne];omega
  have n2c:(q7n !=q0n)=true:=by rw[bne_iff_ne];omega
  have n2d:(q7n==q0n)=false:=by rw[beq_eq_false_iff_ne];omega
  go_enter func22,ntmps22;go_upto_region 1 with (fail)
  rw[ZH.out];go_wp2_with fail;go_ret;exact⟨congrArg (fun z=>Zf (Zs z)) hF.out,by rw[Zw.out,Zx];exact⟨_,rfl⟩⟩
 rw[decide_eq_true h2,Ze]at hR;by_cases h3:q8n=q0n
 case neg =>
  have hF:=Zg (show false=R by rw[←hR,decide_eq_false h3];simp);clear hR;subst h2;have n2a:((q7n:Int) !=(q7n:Int))=false:=by simp
  have n2c:(q7n !=q7n)=false:=by simp
  have n3a:((q8n:Int) !=(q7n:Int))=true:=by rw[bne_iff_ne];omega
  have n3b:((q8n:Int)==(q7n:Int))=false:=by rw[beq_eq_false_iff_ne];omega
  have n3c:(q8n !=q7n)=true:=by rw[bne_iff_ne];omega
  have n3d:(q8n==q7n)=false:=by rw[beq_eq_false_iff_ne];omega
  go_enter func22,ntmps22;go_upto_region 1 with (fail)
  rw[ZH.out];go_wp2_with fail;go_ret;exact⟨congrArg (fun z=>Zf (Zs z)) hF.out,by rw[Zw.out,Zx];exact⟨_,rfl⟩⟩
 rw[decide_eq_true h3,Ze]at hR;subst h2;subst h3;have n2a:((q8n:Int) !=(q8n:Int))=false:=by simp
 have n2c:(q8n !=q8n)=false:=by simp
 have Yd:Hid (ZU (Tg fields) 0 (heads.drop 0)=R):=Zg hR;have hq8:Hid (q8n≤8):=Zg (by omega);clear hR h1;go_enter func22,ntmps22;go_upto_region 1 with (fail)
 rw[ZH.out];go_wp2_with fail;go_loopw [3,4,5,6] (fun iv _ _ _ wr=>∃i:Nat,i≤q8n∧iv=.int .i64 (i:Int)∧Hid (ZU (Tg fields) i (heads.drop i)=R)∧∃y,wr=Go.Proofs.YtheaknidbcbneaaGreat.plus W y) (fun iv _ _ _ _=>q8n-(intOf iv).toNat)
 case atStart=>exact⟨0,Zq _,rfl,Yd,yy,rfl⟩
 case round =>
  clear Yd;obtain⟨i,hi,rfl,hs,y,rfl⟩:=hrel;by_cases hit:i<q8n
  ·obtain⟨⟨lp,lc,l⟩,hx⟩:∃c,heads[i]?=some c:=⟨heads[i]'(by rw[hHn'.out];exact hit),Zi _⟩
   obtain⟨⟨fp,fc,fl⟩,hf⟩:∃c,fields[i]?=some c:=⟨fields[i]'(by rw[hNn'.out];exact hit),Zi _⟩;obtain⟨pa,rfl,g1⟩:=hH'.out i _ hx;obtain⟨fa,rfl,g2⟩:=XT.out i _ hf;have hq:=hWf.out _ (Zl hx);have Z1:=hK'.out _ (Zl hx);have hlb:=YI.out _ (Zl hx);have ZB:=hs.out;rw[WK _ heads i _ hx,show Tg fields i ⟨lp,lc,l⟩=(VV l&&decide (fl.length=l.length)) by unfold Tg;rw[hf],Ln]at ZB;simp only at Z1 hlb hq;obtain⟨n,hn⟩:=Zv l.length;obtain⟨fn,hfn⟩:=Zv fl.length;simp only[Sl.v,hn,hfn]at g1 g2 hq;simp only[Nat.mul_one]at g1 g2;rw[hn,hfn]at ZB;rw[hn]at hlb;obtain⟨WD,hWDe⟩:=Zv (l.all (Yv 0));rw[hWDe]at ZB hq;have SC:n≤16→WD=true→∀k,0≤(l.take k).sum∧(l.take k).sum≤2048:=by
    intro hn16 hWt k;have hm:∀x∈l,1≤x∧x≤128:=by
     intro x hx;have:=(List.all_eq_true.1 (hWDe.trans hWt)) x hx;simpa [Yv]using this
    have h1:=Qt (l.take k) (fun x hx=>hm x (List.mem_of_mem_take hx));have h2:(l.take k).length≤l.length:=by rw[List.length_take];exact Nat.min_le_right _ _
    omega
   replace hq:=Zg hq;replace ZB:=Zg ZB;replace SC:=Zg SC;replace Z1:=Zg Z1;replace hlb:=Zg hlb;have ZJ:=Zg hn;have b6:=Zg (Yo i q8n hit (by have:=hq8.out;omega));have i0:¬((i:Int)<0):=by omega
   have i1:(i:Int)<(q8n:Int):=by omega
   clear hx hf hs hn hfn hWDe;go_wp2_with fail;go_loopw [5,6] (fun s5 iv wr=>∃(k:Nat) (v:Int),k≤n∧s5=.int .i64 v∧iv=.int .i64 (k:Int)∧Hid (n≤16→WD=true→v=(l.take k).sum)∧∃y,wr=Go.Proofs.YtheaknidbcbneaaGreat.plus W y) (fun _ iv _=>n-(intOf iv).toNat)
   case atStart=>exact⟨0,0,Zq _,rfl,rfl,Zg (fun _ _=>by simp),_,rfl⟩
   case round =>
    obtain⟨k,v,hk,rfl,rfl,hv,y,rfl⟩:=hrel;by_cases Zz:k<n
    ·obtain⟨a,ha⟩:=Z6 l k (by rw[ZJ.out];exact Zz)
     obtain⟨la,rfl,g3⟩:=Z1.out k a ha;simp only[Nat.mul_one]at g3;have hv2:Hid (n≤16→WD=true→wrap64 (v+a)=(l.take (k+1)).sum):=Zg (fun h1 h2=>by
      have hb:=SC.out h1 h2 (k+1);rw[O0 l k a ha]at hb ⊢;rw[hv.out h1 h2];unfold wrap64;omega)
     have a6:=Zg (Yo k n Zz hlb.out);have j0:¬((k:Int)<0):=by omega
     have j1:(k:Int)<(n:Int):=by omega
     clear ha hv;go_wp2_with fail;go_roundw
     case rel=>exact⟨k+1,_,Zz,rfl,congrArg (Zt .i64) a6.out,hv2,_,rfl⟩
     case measure=>exact YF k n Zz a6.out
    ·obtain rfl:k=n:=by omega
     have hv2:=hv.out;rw[List.take_of_length_le (by rw[ZJ.out];exact Zp _)]at hv2;have WG:=SC.out;have ZD:=ZB.out;clear hv SC ZB;by_cases u1:k<1
     ·have hF:=Zg (show false=R by rw[←ZD,decide_eq_false (show ¬1≤k by omega)];simp)
      clear ZD hv2 WG;have n5:(k:Int)<(1:Int):=by omega
      have n5b:decide ((k:Int)<(1:Int))=true:=decide_eq_true n5;have m5:decide (k<1)=true:=decide_eq_true (by omega);go_wp2_with fail;go_ret;exact⟨congrArg (fun z=>Zf (Zs z)) hF.out,by rw[Zw.out,Zx];exact⟨_,rfl⟩⟩
     have n5:¬((k:Int)<(1:Int)):=by omega
     have n5b:decide ((k:Int)<(1:Int))=false:=decide_eq_false n5;have m5:decide (k<1)=false:=decide_eq_false (by omega);by_cases u2:16<k
     ·have hF:=Zg (show false=R by rw[←ZD,decide_eq_false (show ¬k≤16 by omega)];simp)
      clear ZD hv2 WG;have n6:(16:Int)<(k:Int):=by omega
      have n6b:decide ((16:Int)<(k:Int))=true:=decide_eq_true n6;have m6:decide (16<k)=true:=decide_eq_true (by omega);go_wp2_with fail;go_ret;exact⟨congrArg (fun z=>Zf (Zs z)) hF.out,by rw[Zw.out,Zx];exact⟨_,rfl⟩⟩
     have n6:¬((16:Int)<(k:Int)):=by omega
     have n6b:decide ((16:Int)<(k:Int))=false:=decide_eq_false n6;have m6:decide (16<k)=false:=decide_eq_false (by omega);rw[decide_eq_true (show 1≤k by omega),decide_eq_true (show k≤16 by omega),Ze,Ze]at ZD;cases WD with
     | false =>
      have hF:=Zg (show false=R by rw[←ZD];simp);clear ZD hv2 WG;go_wp2_with fail;refine (hq.out _).mono ?_;rintro e9 w9 ⟨rfl,y9,rfl⟩;go_wp2_with fail;go_ret;exact⟨congrArg (fun z=>Zf (Zs z)) hF.out,by rw[Zw.out,Zx];exact⟨_,rfl⟩⟩
     | true =>
      obtain rfl:=hv2 (by omega) rfl;have hS:=WG (by omega) rfl k;rw[List.take_of_length_le (by rw[ZJ.out];exact Zp _)]at hS;rw[Ze]at ZD;clear hv2 WG;generalize l.sum=S at hS ZD ⊢;have e8:S.tmod 8=S % 8:=Int.tmod_eq_emod_of_nonneg hS.1;by_cases v1:S % 8=0
      case neg =>
       have v1a:(S.tmod 8==0)=false:=by rw[e8];simpa using v1
       have v1b:(S.tmod 8 !=0)=true:=by rw[bne,v1a];rfl
       have hF:=Zg (show false=R by rw[←ZD];simp[v1]);clear ZD e8 hS;go_wp2_with fail;refine (hq.out _).mono ?_;rintro e9 w9 ⟨rfl,y9,rfl⟩;go_wp2_with fail;go_ret;exact⟨congrArg (fun z=>Zf (Zs z)) hF.out,by rw[Zw.out,Zx];exact⟨_,rfl⟩⟩
      have v1a:(S.tmod 8==0)=true:=by rw[e8,v1];rfl
      have v1b:(S.tmod 8 !=0)=false:=by rw[bne,v1a];rfl
      rw[v1,beq_self_eq_true,Ze]at ZD;by_cases v2:256<S
      ·have v2b:decide (256<S)=true:=decide_eq_true v2
       have hF:=Zg (show false=R by rw[←ZD,decide_eq_false (show ¬S≤256 by omega)];simp);clear ZD e8 hS;go_wp2_with fail;refine (hq.out _).mono ?_;rintro e9 w9 ⟨rfl,y9,rfl⟩;go_wp2_with fail;go_ret;exact⟨congrArg (fun z=>Zf (Zs z)) hF.out,by rw[Zw.out,Zx];exact⟨_,rfl⟩⟩
      have v2b:decide (256<S)=false:=decide_eq_false v2;rw[decide_eq_true (show S≤256 by omega),Ze]at ZD;by_cases v3:fn=k
      case neg =>
       have n7a:((fn:Int) !=(k:Int))=true:=by rw[bne_iff_ne];omega
       have n7b:((fn:Int)==(k:Int))=false:=by rw[beq_eq_false_iff_ne];omega
       have n7c:(fn !=k)=true:=by rw[bne_iff_ne];omega
       have n7d:(fn==k)=false:=by rw[beq_eq_false_iff_ne];omega
       have hF:=Zg (show false=R by rw[←ZD,decide_eq_false v3];simp);clear ZD e8 hS v3;go_wp2_with fail;refine (hq.out _).mono ?_;rintro e9 w9 ⟨rfl,y9,rfl⟩;go_wp2_with fail;go_ret;exact⟨congrArg (fun z=>Zf (Zs z)) hF.out,by rw[Zw.out,Zx];exact⟨_,rfl⟩⟩
      rw[decide_eq_true v3,Ze]at ZD;subst v3;have n7a:((fn:Int) !=(fn:Int))=false:=by simp
      have n7c:(fn !=fn)=false:=by simp
      replace ZD:=Zg ZD;clear e8 hS;go_wp2_with fail;refine (hq.out _).mono ?_;rintro e9 w9 ⟨rfl,y9,rfl⟩;go_wp2_with fail;go_roundw
      case rel=>exact⟨i+1,hit,congrArg (Zt .i64) (by omega),ZD,_,rfl⟩
      case measure=>exact Wg i q8n hit
  ·obtain rfl:i=q8n:=by omega
   have hF:=Zg (show true=R by rw[←hs.out];exact (SU _ _ _ _ (by rw[hHn'.out];exact Zp _)).symm);clear hs;go_wp2_with fail;go_ret;exact⟨congrArg (fun z=>Zf (Zs z)) hF.out,by rw[Zw.out,Zx];exact⟨_,rfl⟩⟩
theorem OD{p:Pg}(hz:p.sz≤1048576)(h:Sl Int)(hh:h∈p.heads.l):h.l.length≤1048576:=by
 have:=Qm _ h hh;unfold Pg.sz Sl.size at hz;omega
theorem HL(p:Pg)(w:World)(hp:p.In w)(hz:p.sz≤1048576):Kp Zr w 22 #[p.val] (.bool (Un p.names.headers.l.length p.heads.l p.names.fields.l)) :=
 HM p.heads.p p.heads.l.length p.heads.cap p.metas.p p.metas.l.length p.metas.cap p.steps.p p.steps.l.length p.steps.cap p.acts.p p.acts.l.length p.acts.cap p.tabs.p p.tabs.l.length p.tabs.cap p.control.p p.control.l.length p.control.cap p.emit.p p.emit.l.length p.emit.cap p.names.headers.p p.names.headers.l.length p.names.headers.cap p.names.fields.p p.names.fields.l.length p.names.fields.cap p.names.metas.p p.names.metas.l.length p.names.metas.cap p.names.actions.p p.names.actions.l.length p.names.actions.cap p.names.tables.p p.names.tables.l.length p.names.tables.cap p.heads.l p.names.fields.l w hp.heads.row rfl hp.names.fields.row rfl (fun h hh=>(hp.heads.kids h hh).row) (OD hz) (fun h hh=>Qk h w (hp.heads.kids h hh) (OD hz h hh))
end Go.Proofs.YtheaknidbcbneaaGreat

/-
  WHAT IS PROVED HERE: a part of the proof (made narrower and merged by program; the parts: Lrn).
-/
import Derived.Test.YtheaknidbcbneaaGreatM42
set_option maxRecDepth 100000
set_option maxHeartbeats 8000000
set_option linter.all false
namespace Go.Proofs.YtheaknidbcbneaaGreat
open Go.RowKit Go.Proofs.Tryz
open Bool renaming true_and→Ze
open Ending renaming returned→Zf
open Lib renaming hid→Zg
open List renaming drop_of_length_le→Zh,getElem?_eq_getElem→Zi,mem_of_getElem?→Zl
open Nat renaming le_refl→Zp,zero_le→Zq
open Go.Proofs.Tryz renaming prog→Zr
open Value renaming bool→Zs,int→Zt
open Go.RowKit
def U7(ns kn k:Nat)(wd:Int)(b:Br):Bool:=(decide (-2≤b.dest)&&decide (b.dest<(ns:Int)))&&(decide (b.pats.l.length=kn)&&(match b.pats.l[k]? with|some x=>Sd x wd|none=>false))
def T7(ns:Nat)(wf:Sl Nd→Int × Bool)(brs:List Br)(kn:Nat)(k:Nat)(c:Sl Nd):Bool:=(wf c).2&&brs.all (U7 ns kn k (wf c).1)
def Tw(nh ns:Nat)(wf:Sl Nd→Int × Bool)(takes:List Int)(keys:List (Sl Nd))(brs:List Br)(dest:Int):Bool :=
 (decide (takes.length≤8)&&(decide (keys.length≤4)&&(decide (-2≤dest)&&decide (dest<(ns:Int)))))&&(takes.all (fun n=>YE n nh)&&(if keys.length=0 then ((brs.length:Int)==0) else (dest==0)&&((decide (1≤brs.length)&&decide (brs.length≤16))&&ZU (T7 ns wf brs keys.length) 0 keys)))
theorem QN{α:Type}(f:α→Bool)(l:List α)(n:Nat)(h:l.length≤n):(l.drop n).all f=true:=by rw[Zh h];rfl
theorem SU{α:Type}(f:Nat→α→Bool)(l:List α)(n k:Nat)(h:l.length≤n):ZU f k (l.drop n)=true:=by rw[Zh h];rfl
theorem PA{a:Int}{n:Nat}(h:a<0∨(n:Int)≤a):YE a n=false:=by
 unfold YE;rw[Bool.and_eq_false_iff,decide_eq_false_iff_not,decide_eq_false_iff_not];omega
theorem Lz{a:Int}{n:Nat}(h:¬a<0)(h2:¬(n:Int)≤a):YE a n=true:=by
 unfold YE;rw[decide_eq_true (by omega),decide_eq_true (by omega)];rfl
theorem GB(q0p q0n q0c q1p q1n q1c q2p q2n q2c q3p q3n q3c q4p q4n q4c q5p q5n q5c q6p q6n q6c q7p q7n q7c q8p q8n q8c q9p q9n q9c q10p q10n q10c q11p q11n q11c)(tp:Option Addr)(tn tc:Nat)(kp:Option Addr)(kn kc:Nat)(bp:Option Addr)(bn bc:Nat)(dest)(takes:List Int)(keys:List (Sl Nd))(brs:List Br)(wf:Sl Nd→Int × Bool)(w:World)(hT:Z2 w 1 (Z8 .i64) tp takes)(hTn:takes.length=tn)(hK:Z2 w 1 YY kp keys)(hKn:keys.length=kn)(hB:Z2 w 2 Br.cells bp brs)(hBn:brs.length=bn)(hBi:∀b∈brs,b.In w)(hW:∀c∈keys,Kp Zr w 7 #[.agg #[.slice q0p q0n q0c,.slice q1p q1n q1c,.slice q2p q2n q2c,.slice q3p q3n q3c,.slice q4p q4n q4c,.slice q5p q5n q5c,.slice q6p q6n q6c,.slice q7p q7n q7c,.slice q8p q8n q8c,.slice q9p q9n q9c,.slice q10p q10n q10c,.slice q11p q11n q11c],.int .i64 (-1),c.v] (.tuple #[.int .i64 (wf c).1,.bool (wf c).2])) :
  Kp Zr w 26 #[.agg #[.slice q0p q0n q0c,.slice q1p q1n q1c,.slice q2p q2n q2c,.slice q3p q3n q3c,.slice q4p q4n q4c,.slice q5p q5n q5c,.slice q6p q6n q6c,.slice q7p q7n q7c,.slice q8p q8n q8c,.slice q9p q9n q9c,.slice q10p q10n q10c,.slice q11p q11n q11c],.agg #[.slice tp tn tc,.slice kp kn kc,.slice bp bn bc,.int .i64 dest]] (.bool (Tw q0n q2n wf takes keys brs dest)):=by
 intro y0;have hT:=hT.plus y0;have hK:=hK.plus y0;have hB:=hB.plus y0;have hBi:∀b∈brs,b.In (plus w y0):=fun b hb=>(hBi b hb).plus y0;have hW:∀c∈keys,Kp Zr (plus w y0) 7 #[.agg #[.slice q0p q0n q0c,.slice q1p q1n q1c,.slice q2p q2n q2c,.slice q3p q3n q3c,.slice q4p q4n q4c,.slice q5p q5n q5c,.slice q6p q6n q6c,.slice q7p q7n q7c,.slice q8p q8n q8c,.slice q9p q9n q9c,.slice q10p q10n q10c,.slice q11p q11n q11c],.int .i64 (-1),c.v] (.tuple #[.int .i64 (wf c).1,.bool (wf c).2]):=fun c hc=>(hW c hc).up y0;obtain⟨V,hV⟩:=Zv (plus w y0);rw[hV]at hT hK hB hBi hW ⊢;clear hV;obtain⟨R,hR⟩:=Zv (Tw q0n q2n wf takes keys brs dest:Bool);rw[hR];unfold Tw at hR;rw[hTn,hKn,hBn]at hR;obtain⟨W,yy,hWW,⟨z,hz⟩,cb0,cb1⟩:=ZF V #[.slice q0p q0n q0c,.slice q1p q1n q1c,.slice q2p q2n q2c,.slice q3p q3n q3c,.slice q4p q4n q4c,.slice q5p q5n q5c,.slice q6p q6n q6c,.slice q7p q7n q7c,.slice q8p q8n q8c,.slice q9p q9n q9c,.slice q10p q10n q10c,.slice q11p q11n q11c] #[.slice tp tn tc,.slice kp kn kc,.slice bp bn bc,.int .i64 dest] 33 49;have c0_0:=cb0 0 _ rfl;have c0_1:=cb0 1 _ rfl;have c0_2:=cb0 2 _ rfl;have c0_3:=cb0 3 _ rfl;have c0_4:=cb0 4 _ rfl;have c0_5:=cb0 5 _ rfl;have c0_6:=cb0 6 _ rfl;have c0_7:=cb0 7 _ rfl;have c0_8:=cb0 8 _ rfl;have c0_9:=cb0 9 _ rfl;have c0_10:=cb0 10 _ rfl;have c0_11:=cb0 11 _ rfl;have c1_0:=cb1 0 _ rfl;have c1_1:=cb1 1 _ rfl;have c1_2:=cb1 2 _ rfl;have c1_3:=cb1 3 _ rfl;have Xs:Hid (∀(k:Nat) (x:Int),takes[k]?=some x→∃a,tp=some a∧∀y,(Go.Proofs.YtheaknidbcbneaaGreat.plus W y).cell? (a.add (k*1))=some (.int .i64 x)):=Zg fun k x hx=>by
  obtain⟨a,hp,hc⟩:=hT k x hx;exact⟨a,hp,fun y=>by rw[hz];exact ((hc.plus z).plus y).c0 _ rfl⟩
 have hK':Hid (∀(k:Nat) (c:Sl Nd),keys[k]?=some c→∃a,kp=some a∧∀y,(Go.Proofs.YtheaknidbcbneaaGreat.plus W y).cell? (a.add (k*1))=some c.v):=Zg fun k x hx=>by
  obtain⟨a,hp,hc⟩:=hK k x hx;exact⟨a,hp,fun y=>by rw[hz];exact ((hc.plus z).plus y).c0 _ rfl⟩
 have hB':Hid (∀(k:Nat) (b:Br),brs[k]?=some b→∃a,bp=some a∧(∀y,(Go.Proofs.YtheaknidbcbneaaGreat.plus W y).cell? (a.add (k*2))=some b.pats.v)∧∀y,(Go.Proofs.YtheaknidbcbneaaGreat.plus W y).cell? ⟨(a.add (k*2)).block,(a.add (k*2)).off+(0+1),none⟩=some (.int .i64 b.dest)):=Zg fun k x hx=>by
  obtain⟨a,hp,hc⟩:=hB k x hx;exact⟨a,hp,fun y=>by rw[hz];exact ((hc.plus z).plus y).c0 _ rfl,fun y=>by rw[hz];exact ((hc.plus z).plus y).cs 0 _ rfl⟩
 have XU:Hid (∀b∈brs,∀(k:Nat) (x:Pt),b.pats.l[k]?=some x→x.In∧∃a,b.pats.p=some a∧∀y,ZG (Go.Proofs.YtheaknidbcbneaaGreat.plus W y) (a.add (k*4)) x.cells):=Zg fun b hb k x hx=>by
  have h:=(hBi b hb).pats;obtain⟨a,hp,hc⟩:=h.row k x hx;exact⟨h.kids x (Zl hx),a,hp,fun y=>by rw[hz];exact (hc.plus z).plus y⟩
 have hWf:Hid (∀c∈keys,Vh Zr W 7 #[.agg #[.slice q0p q0n q0c,.slice q1p q1n q1c,.slice q2p q2n q2c,.slice q3p q3n q3c,.slice q4p q4n q4c,.slice q5p q5n q5c,.slice q6p q6n q6c,.slice q7p q7n q7c,.slice q8p q8n q8c,.slice q9p q9n q9c,.slice q10p q10n q10c,.slice q11p q11n q11c],.int .i64 (-1),c.v] (.tuple #[.int .i64 (wf c).1,.bool (wf c).2])):=Zg fun c hc=>Zy hz (hW c hc);have ZH:=Zg hWW;have Zw:=Zg hz;have Te:=Zg hTn;have hKn':=Zg hKn;have hBn':=Zg hBn;clear hWW hz cb0 cb1 hT hK hB hBi hW hTn hKn hBn;by_cases h1:8<tn
 ·have n1:(8:Int)<(tn:Int):=by omega
  have n1b:decide ((8:Int)<(tn:Int))=true:=decide_eq_true n1;have m1:decide (8<tn)=true:=decide_eq_true (by omega);have hF:=Zg (show false=R by rw[←hR,decide_eq_false (show ¬tn≤8 by omega)];simp);clear hR;go_enter func26,ntmps26;go_upto_region 1 with (fail)
  rw[ZH.out];go_wp2_with fail;go_ret;exact⟨congrArg (fun z=>Zf (Zs z)) hF.out,by rw[Zw.out,Zx];exact⟨_,rfl⟩⟩
 have n1:¬((8:Int)<(tn:Int)):=by omega
 have n1b:decide ((8:Int)<(tn:Int))=false:=decide_eq_false n1;have m1:decide (8<tn)=false:=decide_eq_false (by omega);rw[decide_eq_true (show tn≤8 by omega),Ze]at hR;by_cases h2:4<kn
 ·have n2:(4:Int)<(kn:Int):=by omega
  have n2b:decide ((4:Int)<(kn:Int))=true:=decide_eq_true n2;have m2:decide (4<kn)=true:=decide_eq_true (by omega);have hF:=Zg (show false=R by rw[←hR,decide_eq_false (show ¬kn≤4 by omega)];simp);clear hR;go_enter func26,ntmps26;go_upto_region 1 with (fail)
  rw[ZH.out];go_wp2_with fail;go_ret;exact⟨congrArg (fun z=>Zf (Zs z)) hF.out,by rw[Zw.out,Zx];exact⟨_,rfl⟩⟩
 have n2:¬((4:Int)<(kn:Int)):=by omega
 have n2b:decide ((4:Int)<(kn:Int))=false:=decide_eq_false n2;have m2:decide (4<kn)=false:=decide_eq_false (by omega);rw[decide_eq_true (show kn≤4 by omega),Ze]at hR;by_cases h3:dest< -2
 ·have n3:(dest:Int)<(-2:Int):=by omega
  have n3b:decide ((dest:Int)<(-2:Int))=true:=decide_eq_true n3;have hF:=Zg (show false=R by rw[←hR,decide_eq_false (show ¬-2≤dest by omega)];simp);clear hR;go_enter func26,ntmps26;go_upto_region 1 with (fail)
  rw[ZH.out];go_wp2_with fail;go_ret;exact⟨congrArg (fun z=>Zf (Zs z)) hF.out,by rw[Zw.out,Zx];exact⟨_,rfl⟩⟩
 have n3:¬((dest:Int)<(-2:Int)):=by omega
 have n3b:decide ((dest:Int)<(-2:Int))=false:=decide_eq_false n3;rw[decide_eq_true (show -2≤dest by omega),Ze]at hR;by_cases h4:(q2n:Int)≤dest
 ·have n4:(q2n:Int)≤dest:=by omega
  have n4b:decide ((q2n:Int)≤dest)=true:=decide_eq_true n4;have hF:=Zg (show false=R by rw[←hR,decide_eq_false (show ¬dest<(q2n:Int) by omega)];simp);clear hR;go_enter func26,ntmps26;go_upto_region 1 with (fail)
  rw[ZH.out];go_wp2_with fail;go_ret;exact⟨congrArg (fun z=>Zf (Zs z)) hF.out,by rw[Zw.out,Zx];exact⟨_,rfl⟩⟩
 have n4:¬(q2n:Int)≤dest:=by omega
 have n4b:decide ((q2n:Int)≤dest)=false:=decide_eq_false n4;rw[decide_eq_true (show dest<(q2n:Int) by omega),Ze]at hR;obtain⟨TA,hTA⟩:=Zv (takes.all (fun n=>YE n q0n):Bool);rw[hTA]at hR;have hTA0:Hid ((takes.drop 0).all (fun n=>YE n q0n)=TA):=Zg hTA;have ht8:Hid (tn≤8):=Zg (by omega);have hk4:Hid (kn≤4):=Zg (by omega);replace hR:=Zg hR;clear hTA h1 h2 h3 h4;go_enter func26,ntmps26;go_upto_region 1 with (fail)
 rw[ZH.out];go_wp2_with fail;go_loopw [5] (fun iv wr=>∃k:Nat,k≤tn∧iv=.int .i64 (k:Int)∧Hid ((takes.drop k).all (fun n=>YE n q0n)=TA)∧∃y,wr=Go.Proofs.YtheaknidbcbneaaGreat.plus W y) (fun iv _=>tn-(intOf iv).toNat)
 case atStart=>exact⟨0,Zq _,rfl,hTA0,yy,rfl⟩
 case round =>
  obtain⟨k,hk,rfl,hs,y,rfl⟩:=hrel;by_cases Zz:k<tn
  ·obtain⟨x,hx⟩:=Z6 takes k (by rw[Te.out];exact Zz)
   obtain⟨pa,rfl,g1⟩:=Xs.out k x hx;simp only[Nat.mul_one]at g1;have ZB:=hs.out;rw[RC _ takes k x hx]at ZB;have a6:=Zg (Yo k tn Zz (by have:=ht8.out;omega));have j0:¬((k:Int)<0):=by omega
   have j1:(k:Int)<(tn:Int):=by omega
   clear hx hs;by_cases i1:x<0
   ·have i1b:decide (x<0)=true:=decide_eq_true i1
    have hF:=Zg (show false=R by rw[←hR.out,←ZB,PA (Or.inl i1)];simp);clear ZB hR;go_wp2_with fail;refine ZP (by kernel_rfl) (by kernel_rfl) ?_;repeat (go_big_quiet_step (fail))
    refine wpQuiet_nil ?_;rintro _ ⟨yd,rfl⟩;go_wp2_with fail;go_ret;exact⟨congrArg (fun z=>Zf (Zs z)) hF.out,by rw[Zw.out,Zx];exact⟨_,rfl⟩⟩
   ·have i1b:decide (x<0)=false:=decide_eq_false i1
    by_cases i2:(q0n:Int)≤x
    ·have i2b:decide ((q0n:Int)≤x)=true:=decide_eq_true i2
     have hF:=Zg (show false=R by rw[←hR.out,←ZB,PA (Or.inr i2)];simp);clear ZB hR;go_wp2_with fail;refine ZP (by kernel_rfl) (by kernel_rfl) ?_;repeat (go_big_quiet_step (fail))
     refine wpQuiet_nil ?_;rintro _ ⟨yd,rfl⟩;go_wp2_with fail;go_ret;exact⟨congrArg (fun z=>Zf (Zs z)) hF.out,by rw[Zw.out,Zx];exact⟨_,rfl⟩⟩
    ·have i2b:decide ((q0n:Int)≤x)=false:=decide_eq_false i2
     rw[show YE x q0n=true from Lz i1 i2,Ze]at ZB;replace ZB:=Zg ZB;go_wp2_with fail;refine ZP (by kernel_rfl) (by kernel_rfl) ?_;repeat (go_big_quiet_step (fail))
     refine wpQuiet_nil ?_;rintro _ ⟨yd,rfl⟩;go_wp2_with fail;go_roundw
     case rel=>exact⟨k+1,Zz,congrArg (Zt .i64) (by omega),ZB,_,rfl⟩
     case measure=>exact Wg k tn Zz
  ·obtain rfl:k=tn:=by omega
   have Yj:(true&&(if kn=0 then ((bn:Int)==0) else (dest==0)&&((decide (1≤bn)&&decide (bn≤16))&&ZU (T7 q2n wf brs kn) 0 keys)))=R:=by rw[←hR.out,←hs.out,QN _ _ _ (by rw[Te.out];exact Zp _)]
   rw[Ze]at Yj;clear hs hR hTA0;by_cases hk0:kn=0
   ·have u1:((kn:Int)==0)=true:=by rw[hk0];rfl
    have u2:(kn==0)=true:=by rw[hk0];rfl
    rw[if_pos hk0]at Yj;have hF:=Zg Yj;clear Yj hk0;go_wp2_with fail;go_ret;exact⟨congrArg (fun z=>Zf (Zs z)) hF.out,by rw[Zw.out,Zx];exact⟨_,rfl⟩⟩
   ·have u1:((kn:Int)==0)=false:=by rw[beq_eq_false_iff_ne];omega
    have u2:(kn==0)=false:=by rw[beq_eq_false_iff_ne];exact hk0
    rw[if_neg hk0]at Yj;clear hk0;by_cases d0:dest=0
    ·have u3:(dest==0)=true:=by rw[d0];rfl
     have u4:(dest !=0)=false:=by rw[bne,u3];rfl
     rw[u3,Ze]at Yj;clear d0;by_cases b1:bn<1
     ·have hF:=Zg (show false=R by rw[←Yj,decide_eq_false (show ¬1≤bn by omega)];rfl)
      have n5:(bn:Int)<(1:Int):=by omega
      have n5b:decide ((bn:Int)<(1:Int))=true:=decide_eq_true n5;have m5:decide (bn<1)=true:=decide_eq_true (by omega);clear Yj;go_wp2_with fail;go_ret;exact⟨congrArg (fun z=>Zf (Zs z)) hF.out,by rw[Zw.out,Zx];exact⟨_,rfl⟩⟩
     ·rw[decide_eq_true (show 1≤bn by omega),Ze]at Yj
      have n5:¬((bn:Int)<(1:Int)):=by omega
      have n5b:decide ((bn:Int)<(1:Int))=false:=decide_eq_false n5;have m5:decide (bn<1)=false:=decide_eq_false (by omega);by_cases b2:16<bn
      ·have hF:=Zg (show false=R by rw[←Yj,decide_eq_false (show ¬bn≤16 by omega)];rfl)
       have n6:(16:Int)<(bn:Int):=by omega
       have n6b:decide ((16:Int)<(bn:Int))=true:=decide_eq_true n6;have m6:decide (16<bn)=true:=decide_eq_true (by omega);clear Yj;go_wp2_with fail;go_ret;exact⟨congrArg (fun z=>Zf (Zs z)) hF.out,by rw[Zw.out,Zx];exact⟨_,rfl⟩⟩
      ·rw[decide_eq_true (show bn≤16 by omega),Ze]at Yj
       have n6:¬((16:Int)<(bn:Int)):=by omega
       have n6b:decide ((16:Int)<(bn:Int))=false:=decide_eq_false n6;have m6:decide (16<bn)=false:=decide_eq_false (by omega);have hb16:Hid (bn≤16):=Zg (by omega);have hR0:Hid (ZU (T7 q2n wf brs kn) 0 (keys.drop 0)=R):=Zg Yj;clear Yj b1 b2;go_wp2_with fail;go_loopw [6,7,8,9,10] (fun iv _ _ _ _ wr=>∃k:Nat,k≤kn∧iv=.int .i64 (k:Int)∧Hid (ZU (T7 q2n wf brs kn) k (keys.drop k)=R)∧∃y,wr=Go.Proofs.YtheaknidbcbneaaGreat.plus W y) (fun iv _ _ _ _ _=>kn-(intOf iv).toNat)
       case atStart=>exact⟨0,Zq _,rfl,hR0,_,rfl⟩
       case round =>
        clear hR0;obtain⟨k,hk,rfl,hs,y,rfl⟩:=hrel;by_cases Zz:k<kn
        ·obtain⟨⟨cp,cc,cl⟩,hx⟩:∃c,keys[k]?=some c:=⟨keys[k]'(by rw[hKn'.out];exact Zz),Zi _⟩
         obtain⟨pa,rfl,g1⟩:=hK'.out k _ hx;have hq:=hWf.out _ (Zl hx);have ZB:=hs.out;rw[WK _ keys k _ hx]at ZB;obtain⟨cn,Wa⟩:=Zv cl.length;obtain⟨WX,hWX⟩:=Zv ((wf ⟨cp,cc,cl⟩).1);obtain⟨WB,hWB⟩:=Zv ((wf ⟨cp,cc,cl⟩).2);rw[show T7 q2n wf brs kn k ⟨cp,cc,cl⟩=((wf ⟨cp,cc,cl⟩).2&&brs.all (U7 q2n kn k (wf ⟨cp,cc,cl⟩).1)) from rfl,hWX,hWB]at ZB;rw[hWX,hWB]at hq;simp only[Sl.v,Wa]at hq g1;simp only[Nat.mul_one]at g1;replace hq:=Zg hq;have a6:=Zg (Yo k kn Zz (by have:=hk4.out;omega));have j0:¬((k:Int)<0):=by omega
         have j1:(k:Int)<(kn:Int):=by omega
         clear hx hs hWX hWB Wa;cases WB with
         | false =>
          have hF:=Zg (show false=R from ZB);clear ZB;go_wp2_with fail;refine ZP (by kernel_rfl) (by kernel_rfl) ?_;repeat (go_big_quiet_step (first|(with_reducible exact hq.out _)|fail))
          refine wpQuiet_nil ?_;rintro _ ⟨yd,rfl⟩;go_wp2_with fail;go_ret;exact⟨congrArg (fun z=>Zf (Zs z)) hF.out,by rw[Zw.out,Zx];exact⟨_,rfl⟩⟩
         | true =>
          rw[Ze]at ZB;obtain⟨BA,hBA⟩:=Zv (brs.all (U7 q2n kn k WX):Bool);rw[hBA]at ZB;have hBA0:Hid ((brs.drop 0).all (U7 q2n kn k WX)=BA):=Zg hBA;replace ZB:=Zg ZB;clear hBA;go_wp2_with fail;refine ZP (by kernel_rfl) (by kernel_rfl) ?_;repeat (go_big_quiet_step (first|(with_reducible exact hq.out _)|fail))
          refine wpQuiet_nil ?_;rintro _ ⟨yd,rfl⟩;go_wp2_with fail;go_loopw [9,10] (fun iv _ wr=>∃i:Nat,i≤bn∧iv=.int .i64 (i:Int)∧Hid ((brs.drop i).all (U7 q2n kn k WX)=BA)∧∃y,wr=Go.Proofs.YtheaknidbcbneaaGreat.plus W y) (fun iv _ _=>bn-(intOf iv).toNat)
          case atStart=>exact⟨0,Zq _,rfl,hBA0,_,rfl⟩
          case round =>
           clear hBA0;obtain⟨i,hi,rfl,hs,y,rfl⟩:=hrel;by_cases hit:i<bn
           ·obtain⟨⟨⟨pp,pc,pl⟩,bd⟩,hx⟩:∃b,brs[i]?=some b:=⟨brs[i]'(by rw[hBn'.out];exact hit),Zi _⟩
            obtain⟨ba,rfl,g2,g3⟩:=hB'.out i _ hx;have hpp:=XU.out _ (Zl hx);have ZD:=hs.out;rw[RC _ brs i _ hx]at ZD;obtain⟨pn,hpn⟩:=Zv pl.length;rw[show U7 q2n kn k WX ⟨⟨pp,pc,pl⟩,bd⟩=((decide (-2≤bd)&&decide (bd<(q2n:Int)))&&(decide (pl.length=kn)&&(match pl[k]? with|some x=>Sd x WX|none=>false))) from rfl,hpn]at ZD;simp only[Sl.v,hpn]at g2;simp only at g3 hpp;obtain⟨W3,y3,hW3,⟨z3,ZO⟩,cb3⟩:=Ya (Go.Proofs.YtheaknidbcbneaaGreat.plus W y) #[.slice pp pn pc,.int .i64 bd] 52;have e0:=cb3 0 _ rfl;have e1:=cb3 1 _ rfl;have f2:∀y',(Go.Proofs.YtheaknidbcbneaaGreat.plus W3 y').cell? ⟨V.heap.size,2,none⟩=some (.slice q2p q2n q2c):=fun y'=>by rw[ZO,Zx,Zx];exact c0_2 _
            have f3:∀y',(Go.Proofs.YtheaknidbcbneaaGreat.plus W3 y').cell? ⟨V.heap.size+1,1,none⟩=some (.slice (some pa) kn kc):=fun y'=>by rw[ZO,Zx,Zx];exact c1_1 _
            have hup:Hid (∀y',∃yq,Go.Proofs.YtheaknidbcbneaaGreat.plus W3 y'=Go.Proofs.YtheaknidbcbneaaGreat.plus W yq):=Zg fun y'=>by rw[ZO,Zx,Zx];exact⟨_,rfl⟩
            have hz3':=Zg ZO;have hW3':=Zg hW3;have b6:=Zg (Yo i bn hit (by have:=hb16.out;omega));have i0:¬((i:Int)<0):=by omega
            have i1:(i:Int)<(bn:Int):=by omega
            clear hx hs ZO hW3 cb3;by_cases v1:bd< -2
            ·have v1b:decide (bd< -2)=true:=decide_eq_true v1
             have hF:Hid (false=R):=Zg (by rw[←ZB.out,←ZD,decide_eq_false (show ¬-2≤bd by omega)];simp);clear ZB ZD;go_upto_region 22 with (fail)
             rw[hW3'.out];go_wp2_with fail;go_ret;exact⟨congrArg (fun z=>Zf (Zs z)) hF.out,by obtain⟨yq,hyq⟩:=hup.out y3;rw[hyq,Zw.out,Zx];exact⟨_,rfl⟩⟩
            ·have v1b:decide (bd< -2)=false:=decide_eq_false v1
             by_cases v2:(q2n:Int)≤bd
             ·have v2b:decide ((q2n:Int)≤bd)=true:=decide_eq_true v2
              have hF:Hid (false=R):=Zg (by rw[←ZB.out,←ZD,decide_eq_false (show ¬bd<(q2n:Int) by omega)];simp);clear ZB ZD;go_upto_region 22 with (fail)
              rw[hW3'.out];go_wp2_with fail;go_ret;exact⟨congrArg (fun z=>Zf (Zs z)) hF.out,by obtain⟨yq,hyq⟩:=hup.out y3;rw[hyq,Zw.out,Zx];exact⟨_,rfl⟩⟩
             ·have v2b:decide ((q2n:Int)≤bd)=false:=decide_eq_false v2
              rw[decide_eq_true (show -2≤bd by omega),decide_eq_true (show bd<(q2n:Int) by omega),Ze,Ze]at ZD;by_cases v3:pn=kn
              ·rw[decide_eq_true v3,Ze]at ZD
               subst v3;have v3a:((pn:Int) !=(pn:Int))=false:=by simp
               have v3b:(pn !=pn)=false:=by simp
               obtain⟨x,hx⟩:=Z6 pl k (by omega);obtain⟨hxi,xa,rfl,hxc⟩:=hpp k x hx;rw[hx]at ZD;obtain⟨PB,hPB⟩:=Zv (Sd x WX);have q9:=H2 x WX W3 hxi;simp only at ZD;rw[hPB]at q9 ZD;have h0:∀y',(Go.Proofs.YtheaknidbcbneaaGreat.plus W3 y').cell? _=some (.int .u64 x.v.h):=fun y'=>by rw[hz3'.out,Zx,Zx];exact (hxc _).c0 _ rfl
               have h1:∀y',(Go.Proofs.YtheaknidbcbneaaGreat.plus W3 y').cell? _=some (.int .u64 x.v.l):=fun y'=>by rw[hz3'.out,Zx,Zx];exact (hxc _).cs 0 _ rfl
               have h2:∀y',(Go.Proofs.YtheaknidbcbneaaGreat.plus W3 y').cell? _=some (.int .u64 x.m.h):=fun y'=>by rw[hz3'.out,Zx,Zx];exact (hxc _).cs 1 _ rfl
               have h3:∀y',(Go.Proofs.YtheaknidbcbneaaGreat.plus W3 y').cell? _=some (.int .u64 x.m.l):=fun y'=>by rw[hz3'.out,Zx,Zx];exact (hxc _).cs 2 _ rfl
               replace q9:=Zg q9.pure;clear hx hxc hpp hPB hxi;cases PB with
               | false =>
                have hF:Hid (false=R):=Zg (by rw[←ZB.out,←ZD];rfl);clear ZB ZD;go_upto_region 22 with (fail)
                rw[hW3'.out];go_wp2_with fail;refine (q9.out _).mono ?_;rintro e9 w9 ⟨rfl,y3,rfl⟩;go_wp2_with fail;go_ret;exact⟨congrArg (fun z=>Zf (Zs z)) hF.out,by obtain⟨yq,hyq⟩:=hup.out y3;rw[hyq,Zw.out,Zx];exact⟨_,rfl⟩⟩
               | true =>
                rw[Ze]at ZD;replace ZD:=Zg ZD;go_upto_region 22 with (fail)
                rw[hW3'.out];go_wp2_with fail;refine (q9.out _).mono ?_;rintro e9 w9 ⟨rfl,y3,rfl⟩;go_wp2_with fail;go_roundw
                case rel=>exact⟨i+1,hit,congrArg (Zt .i64) (by omega),ZD,hup.out _⟩
                case measure=>exact Wg i bn hit
              ·have v3a:((pn:Int) !=(kn:Int))=true:=by rw[bne_iff_ne];omega
               have v3b:(pn !=kn)=true:=by simpa using v3
               have v3c:((pn:Int)==(kn:Int))=false:=by rw[beq_eq_false_iff_ne];omega
               have v3d:(pn==kn)=false:=by simpa using v3
               have hF:Hid (false=R):=Zg (by rw[←ZB.out,←ZD,decide_eq_false v3];simp);clear ZB ZD v3;go_upto_region 22 with (fail)
               rw[hW3'.out];go_wp2_with fail;go_ret;exact⟨congrArg (fun z=>Zf (Zs z)) hF.out,by obtain⟨yq,hyq⟩:=hup.out y3;rw[hyq,Zw.out,Zx];exact⟨_,rfl⟩⟩
           ·obtain rfl:i=bn:=by omega
            have hs3:=ZB.out;rw[←hs.out,QN _ _ _ (by rw[hBn'.out];exact Zp _),Ze]at hs3;replace hs3:=Zg hs3;clear hs ZB;go_wp2_with fail;go_roundw
            case rel=>exact⟨k+1,Zz,congrArg (Zt .i64) (by omega),hs3,_,rfl⟩
            case measure=>exact Wg k kn Zz
        ·obtain rfl:k=kn:=by omega
         have hF:=Zg (show true=R by rw[←hs.out];exact (SU _ _ _ _ (by rw[hKn'.out];exact Zp _)).symm);clear hs;go_wp2_with fail;go_ret;exact⟨congrArg (fun z=>Zf (Zs z)) hF.out,by rw[Zw.out,Zx];exact⟨_,rfl⟩⟩
    ·have u3:(dest==0)=false:=by simpa using d0
     have u4:(dest !=0)=true:=by simpa using d0
     have hF:=Zg (show false=R by rw[←Yj,u3];rfl);clear Yj d0;go_wp2_with fail;go_ret;exact⟨congrArg (fun z=>Zf (Zs z)) hF.out,by rw[Zw.out,Zx];exact⟨_,rfl⟩⟩
end Go.Proofs.YtheaknidbcbneaaGreat

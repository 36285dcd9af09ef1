/-
  WHAT IS PROVED HERE: a part of the proof (made narrower and merged by program; the parts: Lrt).
-/
import Derived.Test.YtheaknidbcbneaaGreatM47
import Derived.Test.YtheaknidbcbneaaGreatM48
set_option maxRecDepth 100000
set_option maxHeartbeats 8000000
set_option linter.all false
namespace Go.Proofs.YtheaknidbcbneaaGreat
open Go.RowKit Go.Proofs.Tryz
open Bool renaming and_eq_true→Zd,true_and→Ze
open Ending renaming returned→Zf
open Lib renaming hid→Zg
open List renaming drop_of_length_le→Zh,getElem?_eq_getElem→Zi,mem_of_getElem?→Zl
open Nat renaming le_refl→Zp,zero_le→Zq
open Go.Proofs.Tryz renaming prog→Zr
open Value renaming bool→Zs,int→Zt
open Go.RowKit
theorem Vz{W W2:World}{z:ZA}{a:Addr}{v:Option Value}(hz:W2=plus W z)(h:∀y,(plus W y).cell? a=v):∀y,(plus W2 y).cell? a=v:=fun y=>by rw[hz,Zx];exact h _
theorem HH(q0p q0n q0c q1p q1n q1c q2p q2n q2c q3p q3n q3c q4p q4n q4c q5p q5n q5c q6p q6n q6c q7p q7n q7c q8p q8n q8c q9p q9n q9c q10p q10n q10c q11p q11n q11c)(steps:List Sp)(acts:List At)(tabs:List Tb)(HB MB LB CB)(sf:Sp→Bool)(cyc:Nat→Bool)(ai:Nat→At→Bool)(tf:Tb→Bool)(w)(hH:Kp Zr w 22 #[.agg #[.slice q0p q0n q0c,.slice q1p q1n q1c,.slice q2p q2n q2c,.slice q3p q3n q3c,.slice q4p q4n q4c,.slice q5p q5n q5c,.slice q6p q6n q6c,.slice q7p q7n q7c,.slice q8p q8n q8c,.slice q9p q9n q9c,.slice q10p q10n q10c,.slice q11p q11n q11c]] (.bool HB))(hM:Kp Zr w 23 #[.slice q1p q1n q1c] (.bool MB))(hL:Kp Zr w 24 #[.slice q6p q6n q6c,.int .i64 (q0n:Int)] (.bool LB))(hC:HB=true→MB=true→Kp Zr w 25 #[.agg #[.slice q0p q0n q0c,.slice q1p q1n q1c,.slice q2p q2n q2c,.slice q3p q3n q3c,.slice q4p q4n q4c,.slice q5p q5n q5c,.slice q6p q6n q6c,.slice q7p q7n q7c,.slice q8p q8n q8c,.slice q9p q9n q9c,.slice q10p q10n q10c,.slice q11p q11n q11c],.int .i64 (-1),.slice q5p q5n q5c] (.bool CB))(hS:Z2 w 4 Sp.cells q2p steps)(hSn:steps.length=q2n)(hSf:∀s∈steps,Kp Zr w 26 #[.agg #[.slice q0p q0n q0c,.slice q1p q1n q1c,.slice q2p q2n q2c,.slice q3p q3n q3c,.slice q4p q4n q4c,.slice q5p q5n q5c,.slice q6p q6n q6c,.slice q7p q7n q7c,.slice q8p q8n q8c,.slice q9p q9n q9c,.slice q10p q10n q10c,.slice q11p q11n q11c],.agg #[s.takes.v,s.keys.v,s.branches.v,.int .i64 s.dest]] (.bool (sf s)))(hCy:1≤q2n∧q2n≤16→steps.all sf=true→∀i:Nat,i<q2n→Kp Zr w 27 #[.agg #[.slice q0p q0n q0c,.slice q1p q1n q1c,.slice q2p q2n q2c,.slice q3p q3n q3c,.slice q4p q4n q4c,.slice q5p q5n q5c,.slice q6p q6n q6c,.slice q7p q7n q7c,.slice q8p q8n q8c,.slice q9p q9n q9c,.slice q10p q10n q10c,.slice q11p q11n q11c],.int .i64 (i:Int)] (.bool (cyc i)))(hA:Z2 w 2 At.cells q3p acts)(hAn:acts.length=q3n)(hAw:∀a∈acts,Kp Zr w 23 #[a.params.v] (.bool (a.params.l.all (Yv 0))))(hAi:HB=true→MB=true→∀(i:Nat) a,acts[i]?=some a→Kp Zr w 25 #[.agg #[.slice q0p q0n q0c,.slice q1p q1n q1c,.slice q2p q2n q2c,.slice q3p q3n q3c,.slice q4p q4n q4c,.slice q5p q5n q5c,.slice q6p q6n q6c,.slice q7p q7n q7c,.slice q8p q8n q8c,.slice q9p q9n q9c,.slice q10p q10n q10c,.slice q11p q11n q11c],.int .i64 (i:Int),a.body.v] (.bool (ai i a)))(hT:Z2 w 5 Tb.cells q4p tabs)(hTn:tabs.length=q4n)(hTf:∀t∈tabs,Kp Zr w 28 #[.agg #[.slice q0p q0n q0c,.slice q1p q1n q1c,.slice q2p q2n q2c,.slice q3p q3n q3c,.slice q4p q4n q4c,.slice q5p q5n q5c,.slice q6p q6n q6c,.slice q7p q7n q7c,.slice q8p q8n q8c,.slice q9p q9n q9c,.slice q10p q10n q10c,.slice q11p q11n q11c],.agg #[t.keys.v,t.kinds.v,t.acts.v,.int .i64 t.dflt.act,t.dflt.args.v]] (.bool (tf t))) :
  Kp Zr w 9 #[.agg #[.slice q0p q0n q0c,.slice q1p q1n q1c,.slice q2p q2n q2c,.slice q3p q3n q3c,.slice q4p q4n q4c,.slice q5p q5n q5c,.slice q6p q6n q6c,.slice q7p q7n q7c,.slice q8p q8n q8c,.slice q9p q9n q9c,.slice q10p q10n q10c,.slice q11p q11n q11c]] (.bool (HB&&(decide (q1n≤16)&&(MB&&(decide (q9n=q1n)&&(decide (q10n=q3n)&&(decide (q11n=q4n)&&(decide (1≤q2n)&&(decide (q2n≤16)&&(decide (q3n≤16)&&(decide (q4n≤8)&&(LB&&(CB&&(steps.all sf&&((List.range q2n).all (fun i=>!cyc i)&&(ZU (fun i a=>decide (a.params.l.length≤8)&&(a.params.l.all (Yv 0)&&ai i a)) 0 acts&&tabs.all tf)))))))))))))))):=by
 intro y0;replace hH:=hH.up y0;replace hM:=hM.up y0;replace hL:=hL.up y0;replace hC:=fun a b=>(hC a b).up y0;replace hS:=hS.plus y0;replace hSf:=fun s hs=>(hSf s hs).up y0;replace hCy:=fun a b i hi=>(hCy a b i hi).up y0;replace hA:=hA.plus y0;replace hAw:=fun a ha=>(hAw a ha).up y0;replace hAi:=fun a b i x hx=>(hAi a b i x hx).up y0;replace hT:=hT.plus y0;replace hTf:=fun t ht=>(hTf t ht).up y0;obtain⟨V,hV⟩:=Zv (plus w y0);rw[hV]at hH hM hL hS hA hT ⊢;simp only[hV]at hC hSf hCy hAw hAi hTf;clear hV;have hRR:=Zv ((HB&&(decide (q1n≤16)&&(MB&&(decide (q9n=q1n)&&(decide (q10n=q3n)&&(decide (q11n=q4n)&&(decide (1≤q2n)&&(decide (q2n≤16)&&(decide (q3n≤16)&&(decide (q4n≤8)&&(LB&&(CB&&(steps.all sf&&((List.range q2n).all (fun i=>!cyc i)&&(ZU (fun i a=>decide (a.params.l.length≤8)&&(a.params.l.all (Yv 0)&&ai i a)) 0 acts&&tabs.all tf))))))))))))))):Bool);obtain⟨R,hR⟩:=hRR;rw[hR];obtain⟨W,yy,hWW,⟨z,hz⟩,cb0,cb1⟩:=ZF V #[.slice q0p q0n q0c,.slice q1p q1n q1c,.slice q2p q2n q2c,.slice q3p q3n q3c,.slice q4p q4n q4c,.slice q5p q5n q5c,.slice q6p q6n q6c,.slice q7p q7n q7c,.slice q8p q8n q8c,.slice q9p q9n q9c,.slice q10p q10n q10c,.slice q11p q11n q11c] #[.slice q7p q7n q7c,.slice q8p q8n q8c,.slice q9p q9n q9c,.slice q10p q10n q10c,.slice q11p q11n q11c] 33 31;have c0_0:=cb0 0 _ rfl;have c0_1:=cb0 1 _ rfl;have c0_2:=cb0 2 _ rfl;have c0_3:=cb0 3 _ rfl;have c0_4:=cb0 4 _ rfl;have c0_5:=cb0 5 _ rfl;have c0_6:=cb0 6 _ rfl;have c0_7:=cb0 7 _ rfl;have c0_8:=cb0 8 _ rfl;have c0_9:=cb0 9 _ rfl;have c0_10:=cb0 10 _ rfl;have c0_11:=cb0 11 _ rfl;have c1_2:=cb1 2 _ rfl;have c1_3:=cb1 3 _ rfl;have c1_4:=cb1 4 _ rfl;have WE:Hid (∀(k:Nat) (s:Sp),steps[k]?=some s→∃a,q2p=some a∧∀y,ZG (Go.Proofs.YtheaknidbcbneaaGreat.plus W y) (a.add (k*4)) s.cells):=Zg fun k x hx=>by
  obtain⟨a,hp,hc⟩:=hS k x hx;exact⟨a,hp,fun y=>by rw[hz];exact (hc.plus z).plus y⟩
 have ZR:Hid (∀(k:Nat) (s:At),acts[k]?=some s→∃a,q3p=some a∧∀y,ZG (Go.Proofs.YtheaknidbcbneaaGreat.plus W y) (a.add (k*2)) s.cells):=Zg fun k x hx=>by
  obtain⟨a,hp,hc⟩:=hA k x hx;exact⟨a,hp,fun y=>by rw[hz];exact (hc.plus z).plus y⟩
 have Xs:Hid (∀(k:Nat) (s:Tb),tabs[k]?=some s→∃a,q4p=some a∧∀y,ZG (Go.Proofs.YtheaknidbcbneaaGreat.plus W y) (a.add (k*5)) s.cells):=Zg fun k x hx=>by
  obtain⟨a,hp,hc⟩:=hT k x hx;exact⟨a,hp,fun y=>by rw[hz];exact (hc.plus z).plus y⟩
 have qH:=Zg (Zy hz hH);have qM:=Zg (Zy hz hM);have qL:=Zg (Zy hz hL);have qC0:=Zg (fun a b=>Zy hz (hC a b));have qS0:=Zg (fun s hs=>Zy hz (hSf s hs));have qY0:=Zg (fun a b i hi=>Zy hz (hCy a b i hi));have qA0:=Zg hAw;have qI0:=Zg hAi;have qT0:=Zg (fun s hs=>Zy hz (hTf s hs));have ZH:=Zg hWW;have Zw:=Zg hz;have T0:=Zg hSn;have hAn':=Zg hAn;have Te:=Zg hTn;clear hWW hz cb0 cb1 hH hM hL hC hS hSf hCy hA hAw hAi hT hTf hSn hAn hTn;cases HB with
 | false =>
  have hF:=Zg (show false=R by rw[←hR];rfl);clear hR;go_enter func9,ntmps9;go_upto_region 2 with (fail)
  rw[ZH.out];go_wp2_with fail;refine (qH.out _).mono ?_;rintro e9 w9 ⟨rfl,y9,rfl⟩;go_wp2_with fail;go_ret;exact⟨congrArg (fun z=>Zf (Zs z)) hF.out,by rw[Zw.out,Zx];exact⟨_,rfl⟩⟩
 | true =>
  rw[Ze]at hR;by_cases h2:16<q1n
  case pos =>
   have n2:(16:Int)<(q1n:Int):=by omega
   have n2b:decide ((16:Int)<(q1n:Int))=true:=decide_eq_true n2;have n2c:decide (16<q1n)=true:=decide_eq_true h2;have hF:=Zg (show false=R by rw[←hR,decide_eq_false (show ¬q1n≤16 by omega)];rfl);clear hR;go_enter func9,ntmps9;go_upto_region 2 with (fail)
   rw[ZH.out];go_wp2_with fail;refine (qH.out _).mono ?_;rintro e9 w9 ⟨rfl,y9,rfl⟩;go_wp2_with fail;go_ret;exact⟨congrArg (fun z=>Zf (Zs z)) hF.out,by rw[Zw.out,Zx];exact⟨_,rfl⟩⟩
  case neg =>
  have n2:¬(16:Int)<(q1n:Int):=by omega
  have n2b:decide ((16:Int)<(q1n:Int))=false:=decide_eq_false n2;have n2c:decide (16<q1n)=false:=decide_eq_false h2;rw[decide_eq_true (show q1n≤16 by omega),Ze]at hR;cases MB with
  | false =>
   have hF:=Zg (show false=R by rw[←hR];rfl);clear hR;go_enter func9,ntmps9;go_upto_region 2 with (fail)
   rw[ZH.out];go_wp2_with fail;refine (qH.out _).mono ?_;rintro e9 w9 ⟨rfl,y9,rfl⟩;go_wp2_with fail;refine (qM.out _).mono ?_;rintro e9 w9 ⟨rfl,y9,rfl⟩;go_wp2_with fail;go_ret;exact⟨congrArg (fun z=>Zf (Zs z)) hF.out,by rw[Zw.out,Zx];exact⟨_,rfl⟩⟩
  | true =>
   rw[Ze]at hR;by_cases h4:q9n=q1n
   case neg =>
    have n4a:((q9n:Int) !=(q1n:Int))=true:=by rw[bne_iff_ne];omega
    have n4b:((q9n:Int)==(q1n:Int))=false:=by rw[beq_eq_false_iff_ne];omega
    have n4c:(q9n !=q1n)=true:=by simpa using h4
    have n4d:(q9n==q1n)=false:=by simpa using h4
    have hF:=Zg (show false=R by rw[←hR,decide_eq_false h4];rfl);clear hR h4;go_enter func9,ntmps9;go_upto_region 2 with (fail)
    rw[ZH.out];go_wp2_with fail;refine (qH.out _).mono ?_;rintro e9 w9 ⟨rfl,y9,rfl⟩;go_wp2_with fail;refine (qM.out _).mono ?_;rintro e9 w9 ⟨rfl,y9,rfl⟩;go_wp2_with fail;go_ret;exact⟨congrArg (fun z=>Zf (Zs z)) hF.out,by rw[Zw.out,Zx];exact⟨_,rfl⟩⟩
   case pos =>
   rw[decide_eq_true h4,Ze]at hR;obtain rfl:q1n=q9n:=h4.symm;have n4a:((q1n:Int) !=(q1n:Int))=false:=by simp
   have n4c:(q1n !=q1n)=false:=by simp
   by_cases h5:q10n=q3n
   case neg =>
    have n5a:((q10n:Int) !=(q3n:Int))=true:=by rw[bne_iff_ne];omega
    have n5b:((q10n:Int)==(q3n:Int))=false:=by rw[beq_eq_false_iff_ne];omega
    have n5c:(q10n !=q3n)=true:=by simpa using h5
    have n5d:(q10n==q3n)=false:=by simpa using h5
    have hF:=Zg (show false=R by rw[←hR,decide_eq_false h5];rfl);clear hR h5;go_enter func9,ntmps9;go_upto_region 2 with (fail)
    rw[ZH.out];go_wp2_with fail;refine (qH.out _).mono ?_;rintro e9 w9 ⟨rfl,y9,rfl⟩;go_wp2_with fail;refine (qM.out _).mono ?_;rintro e9 w9 ⟨rfl,y9,rfl⟩;go_wp2_with fail;go_ret;exact⟨congrArg (fun z=>Zf (Zs z)) hF.out,by rw[Zw.out,Zx];exact⟨_,rfl⟩⟩
   case pos =>
   rw[decide_eq_true h5,Ze]at hR;obtain rfl:q3n=q10n:=h5.symm;have n5a:((q3n:Int) !=(q3n:Int))=false:=by simp
   have n5c:(q3n !=q3n)=false:=by simp
   by_cases h6:q11n=q4n
   case neg =>
    have n6a:((q11n:Int) !=(q4n:Int))=true:=by rw[bne_iff_ne];omega
    have n6b:((q11n:Int)==(q4n:Int))=false:=by rw[beq_eq_false_iff_ne];omega
    have n6c:(q11n !=q4n)=true:=by simpa using h6
    have n6d:(q11n==q4n)=false:=by simpa using h6
    have hF:=Zg (show false=R by rw[←hR,decide_eq_false h6];rfl);clear hR h6;go_enter func9,ntmps9;go_upto_region 2 with (fail)
    rw[ZH.out];go_wp2_with fail;refine (qH.out _).mono ?_;rintro e9 w9 ⟨rfl,y9,rfl⟩;go_wp2_with fail;refine (qM.out _).mono ?_;rintro e9 w9 ⟨rfl,y9,rfl⟩;go_wp2_with fail;go_ret;exact⟨congrArg (fun z=>Zf (Zs z)) hF.out,by rw[Zw.out,Zx];exact⟨_,rfl⟩⟩
   case pos =>
   rw[decide_eq_true h6,Ze]at hR;obtain rfl:q4n=q11n:=h6.symm;have n6a:((q4n:Int) !=(q4n:Int))=false:=by simp
   have n6c:(q4n !=q4n)=false:=by simp
   by_cases h7:q2n<1
   case pos =>
    have n7:(q2n:Int)<(1:Int):=by omega
    have n7b:decide ((q2n:Int)<(1:Int))=true:=decide_eq_true n7;have n7c:decide (q2n<1)=true:=decide_eq_true h7;have hF:=Zg (show false=R by rw[←hR,decide_eq_false (show ¬1≤q2n by omega)];rfl);clear hR;go_enter func9,ntmps9;go_upto_region 2 with (fail)
    rw[ZH.out];go_wp2_with fail;refine (qH.out _).mono ?_;rintro e9 w9 ⟨rfl,y9,rfl⟩;go_wp2_with fail;refine (qM.out _).mono ?_;rintro e9 w9 ⟨rfl,y9,rfl⟩;go_wp2_with fail;go_ret;exact⟨congrArg (fun z=>Zf (Zs z)) hF.out,by rw[Zw.out,Zx];exact⟨_,rfl⟩⟩
   case neg =>
   have n7:¬(q2n:Int)<(1:Int):=by omega
   have n7b:decide ((q2n:Int)<(1:Int))=false:=decide_eq_false n7;have n7c:decide (q2n<1)=false:=decide_eq_false h7;rw[decide_eq_true (show 1≤q2n by omega),Ze]at hR;by_cases h8:16<q2n
   case pos =>
    have n8:(16:Int)<(q2n:Int):=by omega
    have n8b:decide ((16:Int)<(q2n:Int))=true:=decide_eq_true n8;have n8c:decide (16<q2n)=true:=decide_eq_true h8;have hF:=Zg (show false=R by rw[←hR,decide_eq_false (show ¬q2n≤16 by omega)];rfl);clear hR;go_enter func9,ntmps9;go_upto_region 2 with (fail)
    rw[ZH.out];go_wp2_with fail;refine (qH.out _).mono ?_;rintro e9 w9 ⟨rfl,y9,rfl⟩;go_wp2_with fail;refine (qM.out _).mono ?_;rintro e9 w9 ⟨rfl,y9,rfl⟩;go_wp2_with fail;go_ret;exact⟨congrArg (fun z=>Zf (Zs z)) hF.out,by rw[Zw.out,Zx];exact⟨_,rfl⟩⟩
   case neg =>
   have n8:¬(16:Int)<(q2n:Int):=by omega
   have n8b:decide ((16:Int)<(q2n:Int))=false:=decide_eq_false n8;have n8c:decide (16<q2n)=false:=decide_eq_false h8;rw[decide_eq_true (show q2n≤16 by omega),Ze]at hR;by_cases h9:16<q3n
   case pos =>
    have n9:(16:Int)<(q3n:Int):=by omega
    have n9b:decide ((16:Int)<(q3n:Int))=true:=decide_eq_true n9;have n9c:decide (16<q3n)=true:=decide_eq_true h9;have hF:=Zg (show false=R by rw[←hR,decide_eq_false (show ¬q3n≤16 by omega)];rfl);clear hR;go_enter func9,ntmps9;go_upto_region 2 with (fail)
    rw[ZH.out];go_wp2_with fail;refine (qH.out _).mono ?_;rintro e9 w9 ⟨rfl,y9,rfl⟩;go_wp2_with fail;refine (qM.out _).mono ?_;rintro e9 w9 ⟨rfl,y9,rfl⟩;go_wp2_with fail;go_ret;exact⟨congrArg (fun z=>Zf (Zs z)) hF.out,by rw[Zw.out,Zx];exact⟨_,rfl⟩⟩
   case neg =>
   have n9:¬(16:Int)<(q3n:Int):=by omega
   have n9b:decide ((16:Int)<(q3n:Int))=false:=decide_eq_false n9;have n9c:decide (16<q3n)=false:=decide_eq_false h9;rw[decide_eq_true (show q3n≤16 by omega),Ze]at hR;by_cases h10:8<q4n
   case pos =>
    have n10:(8:Int)<(q4n:Int):=by omega
    have n10b:decide ((8:Int)<(q4n:Int))=true:=decide_eq_true n10;have n10c:decide (8<q4n)=true:=decide_eq_true h10;have hF:=Zg (show false=R by rw[←hR,decide_eq_false (show ¬q4n≤8 by omega)];rfl);clear hR;go_enter func9,ntmps9;go_upto_region 2 with (fail)
    rw[ZH.out];go_wp2_with fail;refine (qH.out _).mono ?_;rintro e9 w9 ⟨rfl,y9,rfl⟩;go_wp2_with fail;refine (qM.out _).mono ?_;rintro e9 w9 ⟨rfl,y9,rfl⟩;go_wp2_with fail;go_ret;exact⟨congrArg (fun z=>Zf (Zs z)) hF.out,by rw[Zw.out,Zx];exact⟨_,rfl⟩⟩
   case neg =>
   have n10:¬(8:Int)<(q4n:Int):=by omega
   have n10b:decide ((8:Int)<(q4n:Int))=false:=decide_eq_false n10;have n10c:decide (8<q4n)=false:=decide_eq_false h10;rw[decide_eq_true (show q4n≤8 by omega),Ze]at hR;cases LB with
   | false =>
    have hF:=Zg (show false=R by rw[←hR];rfl);clear hR;go_enter func9,ntmps9;go_upto_region 2 with (fail)
    rw[ZH.out];go_wp2_with fail;refine (qH.out _).mono ?_;rintro e9 w9 ⟨rfl,y9,rfl⟩;go_wp2_with fail;refine (qM.out _).mono ?_;rintro e9 w9 ⟨rfl,y9,rfl⟩;go_wp2_with fail;refine (qL.out _).mono ?_;rintro e9 w9 ⟨rfl,y9,rfl⟩;go_wp2_with fail;go_ret;exact⟨congrArg (fun z=>Zf (Zs z)) hF.out,by rw[Zw.out,Zx];exact⟨_,rfl⟩⟩
   | true =>
    rw[Ze]at hR;have qC:=Zg (qC0.out rfl rfl);have qI:=Zg (qI0.out rfl rfl);have hq2:Hid (1≤q2n∧q2n≤16):=Zg (by omega);have hq3:Hid (q3n≤16):=Zg (by omega);have hq4:Hid (q4n≤8):=Zg (by omega);clear qC0 qI0 h2 h7 h8 h9 h10;cases CB with
    | false =>
     have hF:=Zg (show false=R by rw[←hR];rfl);clear hR;go_enter func9,ntmps9;go_upto_region 2 with (fail)
     rw[ZH.out];go_wp2_with fail;refine (qH.out _).mono ?_;rintro e9 w9 ⟨rfl,y9,rfl⟩;go_wp2_with fail;refine (qM.out _).mono ?_;rintro e9 w9 ⟨rfl,y9,rfl⟩;go_wp2_with fail;refine (qL.out _).mono ?_;rintro e9 w9 ⟨rfl,y9,rfl⟩;go_wp2_with fail;refine (qC.out _).mono ?_;rintro e9 w9 ⟨rfl,y9,rfl⟩;go_wp2_with fail;go_ret;exact⟨congrArg (fun z=>Zf (Zs z)) hF.out,by rw[Zw.out,Zx];exact⟨_,rfl⟩⟩
    | true =>
     rw[Ze]at hR;obtain⟨SA,hSA⟩:=Zv (steps.all sf:Bool);have hs0:Hid ((steps.drop 0).all sf=SA):=Zg hSA;have hSAk:=Zg hSA;rw[hSA]at hR;replace hR:=Zg hR;clear hSA;go_enter func9,ntmps9;go_upto_region 2 with (fail)
     rw[ZH.out];go_wp2_with fail;refine (qH.out _).mono ?_;rintro e9 w9 ⟨rfl,y9,rfl⟩;go_wp2_with fail;refine (qM.out _).mono ?_;rintro e9 w9 ⟨rfl,y9,rfl⟩;go_wp2_with fail;refine (qL.out _).mono ?_;rintro e9 w9 ⟨rfl,y9,rfl⟩;go_wp2_with fail;refine (qC.out _).mono ?_;rintro e9 w9 ⟨rfl,y9,rfl⟩;clear qH qM qL qC;go_wp2_with fail;go_loopw [4] (fun iv wr=>∃k:Nat,k≤q2n∧iv=.int .i64 (k:Int)∧Hid ((steps.drop k).all sf=SA)∧∃y,wr=Go.Proofs.YtheaknidbcbneaaGreat.plus W y) (fun iv _=>q2n-(intOf iv).toNat)
     case atStart=>exact⟨0,Zq _,rfl,hs0,_,rfl⟩
     case round =>
      clear hs0;obtain⟨k,hk,rfl,hs,y,rfl⟩:=hrel;by_cases Zz:k<q2n
      ·obtain⟨⟨⟨tp,tc,tl⟩,⟨kp,kc,kl⟩,⟨bp,bc,bl⟩,dest⟩,hx⟩:∃s,steps[k]?=some s:=⟨steps[k]'(by rw[T0.out];exact Zz),Zi _⟩
       obtain⟨pa,rfl,g1⟩:=WE.out k _ hx;have hq:=qS0.out _ (Zl hx);have ZB:=hs.out;rw[SV _ steps k _ hx]at ZB;obtain⟨SF,hSF⟩:=Zv (sf ⟨⟨tp,tc,tl⟩,⟨kp,kc,kl⟩,⟨bp,bc,bl⟩,dest⟩:Bool);obtain⟨tn,htn⟩:=Zv tl.length;obtain⟨kn,hkn⟩:=Zv kl.length;obtain⟨bn,Xa⟩:=Zv bl.length;rw[hSF]at ZB hq;simp only[Sl.v,htn,hkn,Xa]at hq;have u0:=fun y=>(g1 y).c0 _ rfl;have u1:=fun y=>(g1 y).cs 0 _ rfl;have u2:=fun y=>(g1 y).cs 1 _ rfl;have u3:=fun y=>(g1 y).cs 2 _ rfl;simp only[Sl.v,htn,hkn,Xa]at u0 u1 u2 u3;replace hq:=Zg hq;have a6:=Zg (Yo k q2n Zz (by have:=hq2.out;omega));have j0:¬((k:Int)<0):=by omega
       have j1:(k:Int)<(q2n:Int):=by omega
       clear hx hs hSF htn hkn Xa g1;cases SF with
       | false =>
        have hF:=Zg (show false=R by rw[←hR.out,←ZB];rfl);clear ZB hR;go_wp2_with fail;refine ZP (by kernel_rfl) (by kernel_rfl) ?_;repeat (go_big_quiet_step (first|(with_reducible exact hq.out _)|fail))
        refine wpQuiet_nil ?_;rintro _ ⟨yd,rfl⟩;go_wp2_with fail;go_ret;exact⟨congrArg (fun z=>Zf (Zs z)) hF.out,by rw[Zw.out,Zx];exact⟨_,rfl⟩⟩
       | true =>
        rw[Ze]at ZB;replace ZB:=Zg ZB;go_wp2_with fail;refine ZP (by kernel_rfl) (by kernel_rfl) ?_;repeat (go_big_quiet_step (first|(with_reducible exact hq.out _)|fail))
        refine wpQuiet_nil ?_;rintro _ ⟨yd,rfl⟩;go_wp2_with fail;go_roundw
        case rel=>exact⟨k+1,Zz,congrArg (Zt .i64) (by omega),ZB,_,rfl⟩
        case measure=>exact Wg k q2n Zz
      ·obtain rfl:k=q2n:=by omega
       have Ve:=hs.out;rw[Zh (by rw[T0.out];exact Zp _)]at Ve;have hSt:SA=true:=Ve.symm;subst hSt;have Yj:=hR.out;rw[Ze]at Yj;have qY:=Zg (qY0.out hq2.out hSAk.out);have hZZ1:=Zv ((List.range k).all (fun i=>!cyc i):Bool);obtain⟨CA,hCA⟩:=hZZ1;have hc0:Hid (((List.range k).drop 0).all (fun i=>!cyc i)=CA):=Zg hCA;rw[hCA]at Yj;replace Yj:=Zg Yj;clear Ve hs hR hCA hSAk qY0 qS0 WE Zz hk;go_wp2_with fail;go_loopw [5] (fun iv wr=>∃i:Nat,i≤k∧iv=.int .i64 (i:Int)∧Hid (((List.range k).drop i).all (fun i=>!cyc i)=CA)∧∃y,wr=Go.Proofs.YtheaknidbcbneaaGreat.plus W y) (fun iv _=>k-(intOf iv).toNat)
       case atStart=>exact⟨0,Zq _,rfl,hc0,_,rfl⟩
       case round =>
        clear hc0;obtain⟨i,hi,rfl,hs,y,rfl⟩:=hrel;by_cases Zz:i<k
        ·have hq:=qY.out i Zz
         have ZB:=hs.out;rw[SV _ (List.range k) i i (by simp[Zz])]at ZB;obtain⟨SF,hSF⟩:=Zv (cyc i:Bool);rw[hSF]at ZB hq;replace hq:=Zg hq;have a6:=Zg (Yo i k Zz (by have:=hq2.out;omega));have j0:¬((i:Int)<0):=by omega
         have j1:(i:Int)<(k:Int):=by omega
         clear hs hSF;cases SF with
         | true =>
          have hF:=Zg (show false=R by rw[←Yj.out,←ZB];rfl);clear ZB Yj;go_wp2_with fail;refine (hq.out _).mono ?_;rintro e9 w9 ⟨rfl,y9,rfl⟩;go_wp2_with fail;go_ret;exact⟨congrArg (fun z=>Zf (Zs z)) hF.out,by rw[Zw.out,Zx];exact⟨_,rfl⟩⟩
         | false =>
          rw[Bool.not_false,Ze]at ZB;replace ZB:=Zg ZB;go_wp2_with fail;refine (hq.out _).mono ?_;rintro e9 w9 ⟨rfl,y9,rfl⟩;go_wp2_with fail;go_roundw
          case rel=>exact⟨i+1,Zz,congrArg (Zt .i64) (by omega),ZB,_,rfl⟩
          case measure=>exact Wg i k Zz
        ·obtain rfl:i=k:=by omega
         have Z0:=Yj.out;rw[←hs.out,Zh (by rw[List.length_range];exact Zp _)]at Z0;rw[show ([]:List Nat).all (fun i=>!cyc i)=true from rfl,Ze]at Z0;have hZZ2:=Zv (ZU (fun i a=>decide (a.params.l.length≤8)&&(a.params.l.all (Yv 0)&&ai i a)) 0 acts:Bool);obtain⟨AA,hAA⟩:=hZZ2;have ha0:Hid (ZU (fun i a=>decide (a.params.l.length≤8)&&(a.params.l.all (Yv 0)&&ai i a)) 0 (acts.drop 0)=AA):=Zg hAA;rw[hAA]at Z0;replace Z0:=Zg Z0;clear hs Yj hAA qY hi Zz;go_wp2_with fail;go_loopw [6,7] (fun iv _ wr=>∃k:Nat,k≤q3n∧iv=.int .i64 (k:Int)∧Hid (ZU (fun i a=>decide (a.params.l.length≤8)&&(a.params.l.all (Yv 0)&&ai i a)) k (acts.drop k)=AA)∧∃y,wr=Go.Proofs.YtheaknidbcbneaaGreat.plus W y) (fun iv _ _=>q3n-(intOf iv).toNat)
         case atStart=>exact⟨0,Zq _,rfl,ha0,_,rfl⟩
         case round =>
          clear ha0;obtain⟨k,hk,rfl,hs,y,rfl⟩:=hrel;by_cases Zz:k<q3n
          ·obtain⟨⟨⟨tp,tc,tl⟩,⟨bp,bc,bl⟩⟩,hx⟩:∃s,acts[k]?=some s:=⟨acts[k]'(by rw[hAn'.out];exact Zz),Zi _⟩
           obtain⟨pa,rfl,g1⟩:=ZR.out k _ hx;have hqw:=qA0.out _ (Zl hx);have hqi:=qI.out k _ hx;have ZB:=hs.out;rw[WK _ acts k _ hx]at ZB;obtain⟨tn,htn⟩:=Zv tl.length;obtain⟨bn,Xa⟩:=Zv bl.length;obtain⟨WB,hWB⟩:=Zv (tl.all (Yv 0):Bool);obtain⟨IB,hIB⟩:=Zv (ai k ⟨⟨tp,tc,tl⟩,⟨bp,bc,bl⟩⟩:Bool);simp only[Sl.v,htn,Xa,hWB,hIB]at hqw hqi ZB;have u0:=(g1 y).c0 _ rfl;have u1:=(g1 y).cs 0 _ rfl;simp only[Sl.v,htn,Xa]at u0 u1;have j0:¬((k:Int)<0):=by omega
           have j1:(k:Int)<(q3n:Int):=by omega
           have a6:=Zg (Yo k q3n Zz (by have:=hq3.out;omega));obtain⟨W2,y2,Vn,⟨z2,Ym⟩,cb⟩:=Ya (Go.Proofs.YtheaknidbcbneaaGreat.plus W y) #[.slice tp tn tc,.slice bp bn bc] 54;have Wc:∃x,W2=Go.Proofs.YtheaknidbcbneaaGreat.plus V x:=by rw[Ym,Zw.out,Zx,Zx];exact⟨_,rfl⟩
           obtain⟨zz,Wc⟩:=Wc;have WN:∃x,W2=Go.Proofs.YtheaknidbcbneaaGreat.plus W x:=by rw[Ym,Zx];exact⟨_,rfl⟩
           obtain⟨zw,WN⟩:=WN;have v0:=cb 0 _ rfl;have v1:=cb 1 _ rfl;have d0_0:=Vz WN c0_0;have d0_1:=Vz WN c0_1;have d0_2:=Vz WN c0_2;have d0_3:=Vz WN c0_3;have d0_4:=Vz WN c0_4;have d0_5:=Vz WN c0_5;have d0_6:=Vz WN c0_6;have d0_7:=Vz WN c0_7;have d0_8:=Vz WN c0_8;have d0_9:=Vz WN c0_9;have d0_10:=Vz WN c0_10;have d0_11:=Vz WN c0_11;have qw:=Zg (Zy Wc hqw);have qi:=Zg (Zy Wc hqi);have hW2':=Zg Vn;have hzz':=Zg Wc;have hzw':=Zg WN;clear hx hs hWB hIB htn Xa g1 hqw hqi Vn Ym Wc WN cb;go_upto_region 20 with (fail)
           rw[hW2'.out];clear u0 u1 c1_2 c1_3 c1_4 c0_0 c0_1 c0_2 c0_3 c0_4 c0_5 c0_6 c0_7 c0_8 c0_9 c0_10 c0_11;by_cases v8:8<tn
           case pos =>
            have v8a:(8:Int)<(tn:Int):=by omega
            have v8b:decide ((8:Int)<(tn:Int))=true:=decide_eq_true v8a;have v8c:decide (8<tn)=true:=decide_eq_true v8;have hF:=Zg (show false=R by rw[←Z0.out,←ZB,decide_eq_false (show ¬tn≤8 by omega)];rfl);clear ZB Z0;go_wp2_with fail;go_ret;exact⟨congrArg (fun z=>Zf (Zs z)) hF.out,by rw[hzz'.out,Zx];exact⟨_,rfl⟩⟩
           case neg =>
           have v8a:¬(8:Int)<(tn:Int):=by omega
           have v8b:decide ((8:Int)<(tn:Int))=false:=decide_eq_false v8a;have v8c:decide (8<tn)=false:=decide_eq_false v8;rw[decide_eq_true (show tn≤8 by omega),Ze]at ZB;clear v8;cases WB with
           | false =>
            have hF:=Zg (show false=R by rw[←Z0.out,←ZB];rfl);clear ZB Z0;go_wp2_with fail;refine (qw.out _).mono ?_;rintro e9 w9 ⟨rfl,y9,rfl⟩;go_wp2_with fail;go_ret;exact⟨congrArg (fun z=>Zf (Zs z)) hF.out,by rw[hzz'.out,Zx];exact⟨_,rfl⟩⟩
           | true =>
            rw[Ze]at ZB;cases IB with
            | false =>
             have hF:=Zg (show false=R by rw[←Z0.out,←ZB];rfl);clear ZB Z0;go_wp2_with fail;refine (qw.out _).mono ?_;rintro e9 w9 ⟨rfl,y9,rfl⟩;go_wp2_with fail;refine (qi.out _).mono ?_;rintro e9 w9 ⟨rfl,y9,rfl⟩;go_wp2_with fail;go_ret;exact⟨congrArg (fun z=>Zf (Zs z)) hF.out,by rw[hzz'.out,Zx];exact⟨_,rfl⟩⟩
            | true =>
             rw[Ze]at ZB;replace ZB:=Zg ZB;go_wp2_with fail;refine (qw.out _).mono ?_;rintro e9 w9 ⟨rfl,y9,rfl⟩;go_wp2_with fail;refine (qi.out _).mono ?_;rintro e9 w9 ⟨rfl,y9,rfl⟩;go_wp2_with fail;go_roundw
             case rel=>exact⟨k+1,Zz,congrArg (Zt .i64) (by omega),ZB,by rw[hzw'.out,Zx];exact⟨_,rfl⟩⟩
             case measure=>exact Wg k q3n Zz
          ·obtain rfl:k=q3n:=by omega
           have hR3:=Z0.out;rw[←hs.out,SU _ _ _ _ (by rw[hAn'.out];exact Zp _),Ze]at hR3;obtain⟨TA,hTA⟩:=Zv (tabs.all tf:Bool);have ht0:Hid ((tabs.drop 0).all tf=TA):=Zg hTA;rw[hTA]at hR3;replace hR3:=Zg hR3;clear hs Z0 hTA qI qA0 hk Zz;go_wp2_with fail;go_loopw [8] (fun iv wr=>∃k:Nat,k≤q4n∧iv=.int .i64 (k:Int)∧Hid ((tabs.drop k).all tf=TA)∧∃y,wr=Go.Proofs.YtheaknidbcbneaaGreat.plus W y) (fun iv _=>q4n-(intOf iv).toNat)
           case atStart=>exact⟨0,Zq _,rfl,ht0,_,rfl⟩
           case round =>
            clear ht0;obtain⟨j,hj,rfl,hs,y,rfl⟩:=hrel;by_cases Zz:j<q4n
            ·obtain⟨⟨⟨tp,tc,tl⟩,⟨kp,kc,kl⟩,⟨bp,bc,bl⟩,⟨ra,⟨xp,xc,xl⟩⟩⟩,hx⟩:∃s,tabs[j]?=some s:=⟨tabs[j]'(by rw[Te.out];exact Zz),Zi _⟩
             obtain⟨pa,rfl,g1⟩:=Xs.out j _ hx;have hq:=qT0.out _ (Zl hx);have ZB:=hs.out;rw[SV _ tabs j _ hx]at ZB;obtain⟨SF,hSF⟩:=Zv (tf ⟨⟨tp,tc,tl⟩,⟨kp,kc,kl⟩,⟨bp,bc,bl⟩,⟨ra,⟨xp,xc,xl⟩⟩⟩:Bool);obtain⟨tn,htn⟩:=Zv tl.length;obtain⟨kn,hkn⟩:=Zv kl.length;obtain⟨bn,Xa⟩:=Zv bl.length;obtain⟨xn,Wn⟩:=Zv xl.length;rw[hSF]at ZB hq;simp only[Sl.v,htn,hkn,Xa,Wn]at hq;have u0:=fun y=>(g1 y).c0 _ rfl;have u1:=fun y=>(g1 y).cs 0 _ rfl;have u2:=fun y=>(g1 y).cs 1 _ rfl;have u3:=fun y=>(g1 y).cs 2 _ rfl;have u4:=fun y=>(g1 y).cs 3 _ rfl;simp only[Sl.v,htn,hkn,Xa,Wn]at u0 u1 u2 u3 u4;replace hq:=Zg hq;have a6:=Zg (Yo j q4n Zz (by have:=hq4.out;omega));have j0:¬((j:Int)<0):=by omega
             have j1:(j:Int)<(q4n:Int):=by omega
             clear hx hs hSF htn hkn Xa Wn g1;cases SF with
             | false =>
              have hF:=Zg (show false=R by rw[←hR3.out,←ZB];rfl);clear ZB hR3;go_wp2_with fail;refine ZP (by kernel_rfl) (by kernel_rfl) ?_;repeat (go_big_quiet_step (first|(with_reducible exact hq.out _)|fail))
              refine wpQuiet_nil ?_;rintro _ ⟨yd,rfl⟩;go_wp2_with fail;go_ret;exact⟨congrArg (fun z=>Zf (Zs z)) hF.out,by rw[Zw.out,Zx];exact⟨_,rfl⟩⟩
             | true =>
              rw[Ze]at ZB;replace ZB:=Zg ZB;go_wp2_with fail;refine ZP (by kernel_rfl) (by kernel_rfl) ?_;repeat (go_big_quiet_step (first|(with_reducible exact hq.out _)|fail))
              refine wpQuiet_nil ?_;rintro _ ⟨yd,rfl⟩;go_wp2_with fail;go_roundw
              case rel=>exact⟨j+1,Zz,congrArg (Zt .i64) (by omega),ZB,_,rfl⟩
              case measure=>exact Wg j q4n Zz
            ·obtain rfl:j=q4n:=by omega
             have hF:=Zg (show true=R by rw[←hR3.out,←hs.out,Zh (by rw[Te.out];exact Zp _)];rfl);clear hs hR3;go_wp2_with fail;go_ret;exact⟨congrArg (fun z=>Zf (Zs z)) hF.out,by rw[Zw.out,Zx];exact⟨_,rfl⟩⟩
theorem OX{p:Pg}{s:Sp}(h:Uu p s=true):s.branches.l.length≤65536∧(s.keys.l.length=0→s.branches.l=[]):=by
 unfold Uu Tw at h;by_cases hk:s.keys.l.length=0
 ·rw[if_pos hk]at h
  simp only[Zd,beq_iff_eq]at h;have h2:=h.2.2;exact⟨by omega,fun _=>List.length_eq_zero_iff.1 (by omega)⟩
 ·rw[if_neg hk]at h
  simp only[Zd,decide_eq_true_eq]at h;have h2:=h.2.2.2.1.2;exact⟨by omega,fun c=>absurd c hk⟩
open Classical in
theorem HJ(p:Pg)(w:World)(hp:p.In w)(h1:1≤p.steps.l.length∧p.steps.l.length≤16)(hs:p.steps.l.all (Uu p)=true)(i:Nat)(hi:i<p.steps.l.length) :
  Kp Zr w 27 #[p.val,.int .i64 (i:Int)] (.bool (decide (Xy (gF p.steps.l) i i))):=by
 intro y;have hp2:=hp.plus y;refine (HK p.heads.p p.heads.l.length p.heads.cap p.metas.p p.metas.l.length p.metas.cap p.steps.p p.steps.l.length p.steps.cap p.acts.p p.acts.l.length p.acts.cap p.tabs.p p.tabs.l.length p.tabs.cap p.control.p p.control.l.length p.control.cap p.emit.p p.emit.l.length p.emit.cap p.names.headers.p p.names.headers.l.length p.names.headers.cap p.names.fields.p p.names.fields.l.length p.names.fields.cap p.names.metas.p p.names.metas.l.length p.names.metas.cap p.names.actions.p p.names.actions.l.length p.names.actions.cap p.names.tables.p p.names.tables.l.length p.names.tables.cap i p.steps.l (plus w y) hp2.steps.row rfl hp2.steps.kids (by omega) (fun s hm=>(OX (List.all_eq_true.1 hs s hm)).1) (Pk h1.1 hs) (fun s hm=>(OX (List.all_eq_true.1 hs s hm)).2) hi).mono ?_;rintro e w' ⟨b,rfl,hb,hx⟩;refine⟨?_,hx⟩;congr 2
 rw[Bool.eq_iff_iff,decide_eq_true_eq];exact hb
open Classical in
theorem P0{p:Pg}(h1:1≤p.steps.l.length)(hs:p.steps.l.all (Uu p)=true):((List.range p.steps.l.length).all fun i=>!(decide (Xy (gF p.steps.l) i i)))=Vv (gF p.steps.l):=by
 rw[Bool.eq_iff_iff,NH (Pk h1 hs),List.all_eq_true];have hl:(gF p.steps.l).length=p.steps.l.length:=by unfold gF;rw[List.length_map]
 constructor
 ·intro h i hi
  have:=h i (List.mem_range.2 (by omega));simpa using this
 ·intro h i hi
  have:=h i (by have:=List.mem_range.1 hi;omega);simpa using this
theorem HG(p:Pg)(w:World)(hp:p.In w)(hz:p.sz≤1048576):Kp Zr w 9 #[p.val] (.bool (Tq p)):=by
 classical
 rw[←Ic];have l1:=Oh hz;have l3:=Yw At.sz (fun _=>by unfold At.sz;omega) p.acts.l;have l5:=Yw ZZ.sz (fun _=>by unfold ZZ.sz;omega) p.control.l;have l6:=Yw YL (fun _=>Zp _) p.emit.l;have Zw:=hz;unfold Pg.sz Sl.size at Zw;have VH:∀a∈p.acts.l,a.params.l.length≤1048576∧a.body.l.length≤1048576:=fun a ha=>by
  have h1:a.sz≤1048576:=by
   have:=We At.sz p.acts.l a ha;omega
  have h2:=Yw ZZ.sz (fun _=>by unfold ZZ.sz;omega) a.body.l;have h3:=Yw YL (fun _=>Zp _) a.params.l;unfold At.sz Sl.size at h1;omega
 have htb:∀t∈p.tabs.l,t.acts.l.length≤1048576∧t.dflt.args.l.length≤1048576:=fun t ht=>by
  have h1:t.sz≤1048576:=by
   have:=We Tb.sz p.tabs.l t ht;omega
  have h2:=Yw YL (fun _=>Zp _) t.acts.l;have h3:=Yw Nu.sz (fun _=>by unfold Nu.sz;omega) t.dflt.args.l;unfold Tb.sz Ru.sz Sl.size at h1;omega
 refine (HH p.heads.p p.heads.l.length p.heads.cap p.metas.p p.metas.l.length p.metas.cap p.steps.p p.steps.l.length p.steps.cap p.acts.p p.acts.l.length p.acts.cap p.tabs.p p.tabs.l.length p.tabs.cap p.control.p p.control.l.length p.control.cap p.emit.p p.emit.l.length p.emit.cap p.names.headers.p p.names.headers.l.length p.names.headers.cap p.names.fields.p p.names.fields.l.length p.names.fields.cap p.names.metas.p p.names.metas.l.length p.names.metas.cap p.names.actions.p p.names.actions.l.length p.names.actions.cap p.names.tables.p p.names.tables.l.length p.names.tables.cap p.steps.l p.acts.l p.tabs.l (Un p.names.headers.l.length p.heads.l p.names.fields.l) (p.metas.l.all (Yv 0)) (ZU (X7 p.heads.l.length p.emit.l) 0 p.emit.l) (ZM 0 65536 (XD p (-1) p.control.l.length) p.control.l) (Uu p) (fun i=>decide (Xy (gF p.steps.l) i i)) (fun i a=>ZM 0 65536 (XD p (i:Int) a.body.l.length) a.body.l) (Rr p) w
  (HL p w hp hz) (Qk p.metas w hp.metas l1) (Oy p.emit p.heads.l.length w hp.emit (by omega))
  (fun a b=>Ox p (-1) p.control w hp hp.control (by omega) (Nn a b) (by omega))
  hp.steps.row rfl (fun s hs=>GA p s w hp (hp.steps.kids s hs)) (fun a b i hi=>HJ p w hp a b i hi)
  hp.acts.row rfl (fun a ha=>Qk a.params w (hp.acts.kids a ha).params (VH a ha).1)
  (fun a b i x hx=>Ox p (i:Int) x.body w hp (hp.acts.kids x (Zl hx)).body (VH x (Zl hx)).2 (Nn a b) (by omega))
  hp.tabs.row rfl (fun t ht=>GC p t w hp (hp.tabs.kids t ht) (htb t ht).1 (htb t ht).2)).eqv (congrArg Zs ?_)
 unfold R6;rw[Bool.eq_iff_iff];simp only[Zd,decide_eq_true_eq];constructor
 ·rintro⟨a,b,c,d,e,f,g,h,i,j,k,l,m,n,o,q⟩
  exact⟨a,b,c,d,e,f,g,h,i,j,k,l,m,(P0 g m)▸n,o,q⟩
 ·rintro⟨a,b,c,d,e,f,g,h,i,j,k,l,m,n,o,q⟩
  exact⟨a,b,c,d,e,f,g,h,i,j,k,l,m,(P0 g m).symm▸n,o,q⟩
end Go.Proofs.YtheaknidbcbneaaGreat

/-
  WHAT IS PROVED HERE: a part of the proof (made narrower and merged by program; the parts: Lrk).
-/
import Derived.Test.YtheaknidbcbneaaGreatM42
set_option maxRecDepth 100000
set_option maxHeartbeats 8000000
set_option linter.all false
namespace Go.Proofs.YtheaknidbcbneaaGreat
open Go.RowKit Go.Proofs.Tryz
open Ending renaming returned→Zf
open Lib renaming hid→Zg
open Go.Proofs.Tryz renaming prog→Zr
open Go.RowKit
theorem HN(q0p q0n q0c q1p q1n q1c q2p q2n q2c q3p q3n q3c q4p q4n q4c q5p q5n q5c q6p q6n q6c q7p q7n q7c q8p q8n q8c q9p q9n q9c q10p q10n q10c q11p q11n q11c act ia ib ep en ec it i many)(kd:Int)(w)(n1:¬kd=1)(n2:¬kd=2)(n3:¬kd=3)(n4:¬kd=4)(n5:¬kd=5)(n6:¬kd=6)(n7:¬kd=7)(n8:¬kd=8) :
  Kp Zr w 56 #[.agg #[.slice q0p q0n q0c,.slice q1p q1n q1c,.slice q2p q2n q2c,.slice q3p q3n q3c,.slice q4p q4n q4c,.slice q5p q5n q5c,.slice q6p q6n q6c,.slice q7p q7n q7c,.slice q8p q8n q8c,.slice q9p q9n q9c,.slice q10p q10n q10c,.slice q11p q11n q11c],.int .i64 act,.agg #[.int .u8 kd,.int .i64 ia,.int .i64 ib,.slice ep en ec,.int .i64 it],.int .i64 i,.int .i64 many] (.bool (false)):=by
 intro y0;obtain⟨V,hV⟩:=Zv (plus w y0);rw[hV]at ⊢;clear hV;obtain⟨R,hR⟩:=Zv ((.bool (false)):Value);rw[hR];obtain⟨W,yy,hW,⟨z,hz⟩,cb0,cb1⟩:=ZF V #[.slice q0p q0n q0c,.slice q1p q1n q1c,.slice q2p q2n q2c,.slice q3p q3n q3c,.slice q4p q4n q4c,.slice q5p q5n q5c,.slice q6p q6n q6c,.slice q7p q7n q7c,.slice q8p q8n q8c,.slice q9p q9n q9c,.slice q10p q10n q10c,.slice q11p q11n q11c] #[.int .u8 kd,.int .i64 ia,.int .i64 ib,.slice ep en ec,.int .i64 it] 33 99;have c0_0:=cb0 0 _ rfl;have c0_1:=cb0 1 _ rfl;have c0_2:=cb0 2 _ rfl;have c0_3:=cb0 3 _ rfl;have c0_4:=cb0 4 _ rfl;have c0_5:=cb0 5 _ rfl;have c0_6:=cb0 6 _ rfl;have c0_7:=cb0 7 _ rfl;have c0_8:=cb0 8 _ rfl;have c0_9:=cb0 9 _ rfl;have c0_10:=cb0 10 _ rfl;have c0_11:=cb0 11 _ rfl;have c1_0:=cb1 0 _ rfl;have c1_1:=cb1 1 _ rfl;have c1_2:=cb1 2 _ rfl;have c1_3:=cb1 3 _ rfl;have c1_4:=cb1 4 _ rfl;have ZH:=Zg hW;have Zw:=Zg hz;clear hW hz cb0 cb1;have m1:(kd==1)=false:=by rw[beq_eq_false_iff_ne];exact n1
 have m2:(kd==2)=false:=by rw[beq_eq_false_iff_ne];exact n2
 have m3:(kd==3)=false:=by rw[beq_eq_false_iff_ne];exact n3
 have m4:(kd==4)=false:=by rw[beq_eq_false_iff_ne];exact n4
 have m5:(kd==5)=false:=by rw[beq_eq_false_iff_ne];exact n5
 have m6:(kd==6)=false:=by rw[beq_eq_false_iff_ne];exact n6
 have m7:(kd==7)=false:=by rw[beq_eq_false_iff_ne];exact n7
 have m8:(kd==8)=false:=by rw[beq_eq_false_iff_ne];exact n8
 by_cases k1k:0≤ia
 case neg =>
  have k1kb:decide (0≤ia)=false:=decide_eq_false k1k;have hF:=Zg (show (.bool false:Value)=R by first|exact hR|(rw[←hR];simp[k1k]));clear hR;go_enter func56,ntmps56;go_upto_region 1 with (fail)
  rw[ZH.out];go_wp2_with fail;go_ret;exact⟨congrArg Zf hF.out,by rw[Zw.out,Zx];exact⟨_,rfl⟩⟩
 case pos =>
  have k1kb:decide (0≤ia)=true:=decide_eq_true k1k;have hF:=Zg (show (.bool false:Value)=R by first|exact hR|(rw[←hR];simp[k1k]));clear hR;go_enter func56,ntmps56;go_upto_region 1 with (fail)
  rw[ZH.out];go_wp2_with fail;go_ret;exact⟨congrArg Zf hF.out,by rw[Zw.out,Zx];exact⟨_,rfl⟩⟩
theorem HT(q0p q0n q0c q1p q1n q1c q2p q2n q2c q3p q3n q3c q4p q4n q4c q5p q5n q5c q6p q6n q6c q7p q7n q7c q8p q8n q8c q9p q9n q9c q10p q10n q10c q11p q11n q11c act ia ib ep en ec it i many w) :
  Kp Zr w 56 #[.agg #[.slice q0p q0n q0c,.slice q1p q1n q1c,.slice q2p q2n q2c,.slice q3p q3n q3c,.slice q4p q4n q4c,.slice q5p q5n q5c,.slice q6p q6n q6c,.slice q7p q7n q7c,.slice q8p q8n q8c,.slice q9p q9n q9c,.slice q10p q10n q10c,.slice q11p q11n q11c],.int .i64 act,.agg #[.int .u8 3,.int .i64 ia,.int .i64 ib,.slice ep en ec,.int .i64 it],.int .i64 i,.int .i64 many] (.bool ((!(decide (0≤act)))&&((!(decide (ia<0)))&&((!(decide ((q4n:Int)≤ia)))&&((ib==0)&&((it==0)&&((en:Int)==0))))))):=by
 intro y0;obtain⟨V,hV⟩:=Zv (plus w y0);rw[hV]at ⊢;clear hV;obtain⟨R,hR⟩:=Zv ((.bool ((!(decide (0≤act)))&&((!(decide (ia<0)))&&((!(decide ((q4n:Int)≤ia)))&&((ib==0)&&((it==0)&&((en:Int)==0))))))):Value);rw[hR];obtain⟨W,yy,hW,⟨z,hz⟩,cb0,cb1⟩:=ZF V #[.slice q0p q0n q0c,.slice q1p q1n q1c,.slice q2p q2n q2c,.slice q3p q3n q3c,.slice q4p q4n q4c,.slice q5p q5n q5c,.slice q6p q6n q6c,.slice q7p q7n q7c,.slice q8p q8n q8c,.slice q9p q9n q9c,.slice q10p q10n q10c,.slice q11p q11n q11c] #[.int .u8 3,.int .i64 ia,.int .i64 ib,.slice ep en ec,.int .i64 it] 33 99;have c0_0:=cb0 0 _ rfl;have c0_1:=cb0 1 _ rfl;have c0_2:=cb0 2 _ rfl;have c0_3:=cb0 3 _ rfl;have c0_4:=cb0 4 _ rfl;have c0_5:=cb0 5 _ rfl;have c0_6:=cb0 6 _ rfl;have c0_7:=cb0 7 _ rfl;have c0_8:=cb0 8 _ rfl;have c0_9:=cb0 9 _ rfl;have c0_10:=cb0 10 _ rfl;have c0_11:=cb0 11 _ rfl;have c1_0:=cb1 0 _ rfl;have c1_1:=cb1 1 _ rfl;have c1_2:=cb1 2 _ rfl;have c1_3:=cb1 3 _ rfl;have c1_4:=cb1 4 _ rfl;have ZH:=Zg hW;have Zw:=Zg hz;clear hW hz cb0 cb1;by_cases k1k:ia<0
 case neg =>
  have k1kb:decide (ia<0)=false:=decide_eq_false k1k;have dge:decide (0≤ia)=true:=decide_eq_true (by omega);have dpp:0≤ia:=by omega
  by_cases k2k:0≤act
  case neg =>
   have k2kb:decide (0≤act)=false:=decide_eq_false k2k;by_cases k3k:(q4n:Int)≤ia
   case neg =>
    have k3kb:decide ((q4n:Int)≤ia)=false:=decide_eq_false k3k;by_cases k4k:(ib==0)=true
    case neg =>
     have k4k:(ib==0)=false:=by simpa using k4k
     have k4kn:(ib !=0)=true:=by rw[bne,k4k];rfl
     have hF:=Zg (show (.bool false:Value)=R by first|exact hR|(rw[←hR];simp[k1k,k2k,k3k,k4k]));clear hR;go_enter func56,ntmps56;go_upto_region 1 with (fail)
     rw[ZH.out];go_wp2_with fail;go_ret;exact⟨congrArg Zf hF.out,by rw[Zw.out,Zx];exact⟨_,rfl⟩⟩
    case pos =>
     have k4kn:(ib !=0)=false:=by rw[bne,k4k];rfl
     by_cases k5k:(it==0)=true
     case neg =>
      have k5k:(it==0)=false:=by simpa using k5k
      have k5kn:(it !=0)=true:=by rw[bne,k5k];rfl
      have hF:=Zg (show (.bool false:Value)=R by first|exact hR|(rw[←hR];simp[k1k,k2k,k3k,k4k,k5k]));clear hR;go_enter func56,ntmps56;go_upto_region 1 with (fail)
      rw[ZH.out];go_wp2_with fail;go_ret;exact⟨congrArg Zf hF.out,by rw[Zw.out,Zx];exact⟨_,rfl⟩⟩
     case pos =>
      have k5kn:(it !=0)=false:=by rw[bne,k5k];rfl
      have hF:=Zg (show (.bool ((en:Int)==0):Value)=R by first|exact hR|(rw[←hR];simp[k1k,k2k,k3k,k4k,k5k]));clear hR;go_enter func56,ntmps56;go_upto_region 1 with (fail)
      rw[ZH.out];go_wp2_with fail;go_ret;exact⟨congrArg Zf hF.out,by rw[Zw.out,Zx];exact⟨_,rfl⟩⟩
   case pos =>
    have k3kb:decide ((q4n:Int)≤ia)=true:=decide_eq_true k3k;have hF:=Zg (show (.bool false:Value)=R by first|exact hR|(rw[←hR];simp[k1k,k2k,k3k]));clear hR;go_enter func56,ntmps56;go_upto_region 1 with (fail)
    rw[ZH.out];go_wp2_with fail;go_ret;exact⟨congrArg Zf hF.out,by rw[Zw.out,Zx];exact⟨_,rfl⟩⟩
  case pos =>
   have k2kb:decide (0≤act)=true:=decide_eq_true k2k;have hF:=Zg (show (.bool false:Value)=R by first|exact hR|(rw[←hR];simp[k1k,k2k]));clear hR;go_enter func56,ntmps56;go_upto_region 1 with (fail)
   rw[ZH.out];go_wp2_with fail;go_ret;exact⟨congrArg Zf hF.out,by rw[Zw.out,Zx];exact⟨_,rfl⟩⟩
 case pos =>
  have k1kb:decide (ia<0)=true:=decide_eq_true k1k;have dlt:decide (0≤ia)=false:=decide_eq_false (by omega);have dnn:¬0≤ia:=by omega
  by_cases k6k:0≤act
  case neg =>
   have k6kb:decide (0≤act)=false:=decide_eq_false k6k;have hF:=Zg (show (.bool false:Value)=R by first|exact hR|(rw[←hR];simp[k1k,k6k]));clear hR;go_enter func56,ntmps56;go_upto_region 1 with (fail)
   rw[ZH.out];go_wp2_with fail;go_ret;exact⟨congrArg Zf hF.out,by rw[Zw.out,Zx];exact⟨_,rfl⟩⟩
  case pos =>
   have k6kb:decide (0≤act)=true:=decide_eq_true k6k;have hF:=Zg (show (.bool false:Value)=R by first|exact hR|(rw[←hR];simp[k1k,k6k]));clear hR;go_enter func56,ntmps56;go_upto_region 1 with (fail)
   rw[ZH.out];go_wp2_with fail;go_ret;exact⟨congrArg Zf hF.out,by rw[Zw.out,Zx];exact⟨_,rfl⟩⟩
theorem HW(q0p q0n q0c q1p q1n q1c q2p q2n q2c q3p q3n q3c q4p q4n q4c q5p q5n q5c q6p q6n q6c q7p q7n q7c q8p q8n q8c q9p q9n q9c q10p q10n q10c q11p q11n q11c act ia ib ep en ec it i many w) :
  Kp Zr w 56 #[.agg #[.slice q0p q0n q0c,.slice q1p q1n q1c,.slice q2p q2n q2c,.slice q3p q3n q3c,.slice q4p q4n q4c,.slice q5p q5n q5c,.slice q6p q6n q6c,.slice q7p q7n q7c,.slice q8p q8n q8c,.slice q9p q9n q9c,.slice q10p q10n q10c,.slice q11p q11n q11c],.int .i64 act,.agg #[.int .u8 6,.int .i64 ia,.int .i64 ib,.slice ep en ec,.int .i64 it],.int .i64 i,.int .i64 many] (.bool ((!(decide (ia<0)))&&((decide (ia<(q0n:Int)))&&(((ib==0)||(ib==1))&&((it==0)&&((en:Int)==0)))))):=by
 intro y0;obtain⟨V,hV⟩:=Zv (plus w y0);rw[hV]at ⊢;clear hV;obtain⟨R,hR⟩:=Zv ((.bool ((!(decide (ia<0)))&&((decide (ia<(q0n:Int)))&&(((ib==0)||(ib==1))&&((it==0)&&((en:Int)==0)))))):Value);rw[hR];obtain⟨W,yy,hW,⟨z,hz⟩,cb0,cb1⟩:=ZF V #[.slice q0p q0n q0c,.slice q1p q1n q1c,.slice q2p q2n q2c,.slice q3p q3n q3c,.slice q4p q4n q4c,.slice q5p q5n q5c,.slice q6p q6n q6c,.slice q7p q7n q7c,.slice q8p q8n q8c,.slice q9p q9n q9c,.slice q10p q10n q10c,.slice q11p q11n q11c] #[.int .u8 6,.int .i64 ia,.int .i64 ib,.slice ep en ec,.int .i64 it] 33 99;have c0_0:=cb0 0 _ rfl;have c0_1:=cb0 1 _ rfl;have c0_2:=cb0 2 _ rfl;have c0_3:=cb0 3 _ rfl;have c0_4:=cb0 4 _ rfl;have c0_5:=cb0 5 _ rfl;have c0_6:=cb0 6 _ rfl;have c0_7:=cb0 7 _ rfl;have c0_8:=cb0 8 _ rfl;have c0_9:=cb0 9 _ rfl;have c0_10:=cb0 10 _ rfl;have c0_11:=cb0 11 _ rfl;have c1_0:=cb1 0 _ rfl;have c1_1:=cb1 1 _ rfl;have c1_2:=cb1 2 _ rfl;have c1_3:=cb1 3 _ rfl;have c1_4:=cb1 4 _ rfl;have ZH:=Zg hW;have Zw:=Zg hz;clear hW hz cb0 cb1;by_cases k1k:ia<0
 case neg =>
  have k1kb:decide (ia<0)=false:=decide_eq_false k1k;have dge:decide (0≤ia)=true:=decide_eq_true (by omega);have dpp:0≤ia:=by omega
  by_cases k2k:ia<(q0n:Int)
  case neg =>
   have k2kb:decide (ia<(q0n:Int))=false:=decide_eq_false k2k;have hF:=Zg (show (.bool false:Value)=R by first|exact hR|(rw[←hR];simp[k1k,k2k]));clear hR;go_enter func56,ntmps56;go_upto_region 1 with (fail)
   rw[ZH.out];go_wp2_with fail;go_ret;exact⟨congrArg Zf hF.out,by rw[Zw.out,Zx];exact⟨_,rfl⟩⟩
  case pos =>
   have k2kb:decide (ia<(q0n:Int))=true:=decide_eq_true k2k;by_cases k3k:(ib==0)=true
   case neg =>
    have k3k:(ib==0)=false:=by simpa using k3k
    have k3kn:(ib !=0)=true:=by rw[bne,k3k];rfl
    by_cases k4k:(ib==1)=true
    case neg =>
     have k4k:(ib==1)=false:=by simpa using k4k
     have k4kn:(ib !=1)=true:=by rw[bne,k4k];rfl
     have hF:=Zg (show (.bool false:Value)=R by first|exact hR|(rw[←hR];simp[k1k,k2k,k3k,k4k]));clear hR;go_enter func56,ntmps56;go_upto_region 1 with (fail)
     rw[ZH.out];go_wp2_with fail;go_ret;exact⟨congrArg Zf hF.out,by rw[Zw.out,Zx];exact⟨_,rfl⟩⟩
    case pos =>
     have k4kn:(ib !=1)=false:=by rw[bne,k4k];rfl
     by_cases k5k:(it==0)=true
     case neg =>
      have k5k:(it==0)=false:=by simpa using k5k
      have k5kn:(it !=0)=true:=by rw[bne,k5k];rfl
      have hF:=Zg (show (.bool false:Value)=R by first|exact hR|(rw[←hR];simp[k1k,k2k,k3k,k4k,k5k]));clear hR;go_enter func56,ntmps56;go_upto_region 1 with (fail)
      rw[ZH.out];go_wp2_with fail;go_ret;exact⟨congrArg Zf hF.out,by rw[Zw.out,Zx];exact⟨_,rfl⟩⟩
     case pos =>
      have k5kn:(it !=0)=false:=by rw[bne,k5k];rfl
      have hF:=Zg (show (.bool ((en:Int)==0):Value)=R by first|exact hR|(rw[←hR];simp[k1k,k2k,k3k,k4k,k5k]));clear hR;go_enter func56,ntmps56;go_upto_region 1 with (fail)
      rw[ZH.out];go_wp2_with fail;go_ret;exact⟨congrArg Zf hF.out,by rw[Zw.out,Zx];exact⟨_,rfl⟩⟩
   case pos =>
    have k3kn:(ib !=0)=false:=by rw[bne,k3k];rfl
    by_cases k6k:(it==0)=true
    case neg =>
     have k6k:(it==0)=false:=by simpa using k6k
     have k6kn:(it !=0)=true:=by rw[bne,k6k];rfl
     have hF:=Zg (show (.bool false:Value)=R by first|exact hR|(rw[←hR];simp[k1k,k2k,k3k,k6k]));clear hR;go_enter func56,ntmps56;go_upto_region 1 with (fail)
     rw[ZH.out];go_wp2_with fail;go_ret;exact⟨congrArg Zf hF.out,by rw[Zw.out,Zx];exact⟨_,rfl⟩⟩
    case pos =>
     have k6kn:(it !=0)=false:=by rw[bne,k6k];rfl
     have hF:=Zg (show (.bool ((en:Int)==0):Value)=R by first|exact hR|(rw[←hR];simp[k1k,k2k,k3k,k6k]));clear hR;go_enter func56,ntmps56;go_upto_region 1 with (fail)
     rw[ZH.out];go_wp2_with fail;go_ret;exact⟨congrArg Zf hF.out,by rw[Zw.out,Zx];exact⟨_,rfl⟩⟩
 case pos =>
  have k1kb:decide (ia<0)=true:=decide_eq_true k1k;have dlt:decide (0≤ia)=false:=decide_eq_false (by omega);have dnn:¬0≤ia:=by omega
  have hF:=Zg (show (.bool false:Value)=R by first|exact hR|(rw[←hR];simp[k1k]));clear hR;go_enter func56,ntmps56;go_upto_region 1 with (fail)
  rw[ZH.out];go_wp2_with fail;go_ret;exact⟨congrArg Zf hF.out,by rw[Zw.out,Zx];exact⟨_,rfl⟩⟩
theorem HR(q0p q0n q0c q1p)(q1n q1c:Nat)(q2p q2n q2c q3p q3n q3c q4p q4n q4c q5p q5n q5c q6p q6n q6c q7p q7n q7c q8p q8n q8c q9p q9n q9c q10p q10n q10c q11p q11n q11c act)(ia ib:Int)(ep en ec it i many w)(ho:¬(0≤ia∧ia<(q1n:Int))) :
  Kp Zr w 56 #[.agg #[.slice q0p q0n q0c,.slice q1p q1n q1c,.slice q2p q2n q2c,.slice q3p q3n q3c,.slice q4p q4n q4c,.slice q5p q5n q5c,.slice q6p q6n q6c,.slice q7p q7n q7c,.slice q8p q8n q8c,.slice q9p q9n q9c,.slice q10p q10n q10c,.slice q11p q11n q11c],.int .i64 act,.agg #[.int .u8 2,.int .i64 ia,.int .i64 ib,.slice ep en ec,.int .i64 it],.int .i64 i,.int .i64 many] (.bool (false)):=by
 intro y0;obtain⟨V,hV⟩:=Zv (plus w y0);rw[hV]at ⊢;clear hV;obtain⟨R,hR⟩:=Zv ((.bool (false)):Value);rw[hR];obtain⟨W,yy,hW,⟨z,hz⟩,cb0,cb1⟩:=ZF V #[.slice q0p q0n q0c,.slice q1p q1n q1c,.slice q2p q2n q2c,.slice q3p q3n q3c,.slice q4p q4n q4c,.slice q5p q5n q5c,.slice q6p q6n q6c,.slice q7p q7n q7c,.slice q8p q8n q8c,.slice q9p q9n q9c,.slice q10p q10n q10c,.slice q11p q11n q11c] #[.int .u8 2,.int .i64 ia,.int .i64 ib,.slice ep en ec,.int .i64 it] 33 99;have c0_0:=cb0 0 _ rfl;have c0_1:=cb0 1 _ rfl;have c0_2:=cb0 2 _ rfl;have c0_3:=cb0 3 _ rfl;have c0_4:=cb0 4 _ rfl;have c0_5:=cb0 5 _ rfl;have c0_6:=cb0 6 _ rfl;have c0_7:=cb0 7 _ rfl;have c0_8:=cb0 8 _ rfl;have c0_9:=cb0 9 _ rfl;have c0_10:=cb0 10 _ rfl;have c0_11:=cb0 11 _ rfl;have c1_0:=cb1 0 _ rfl;have c1_1:=cb1 1 _ rfl;have c1_2:=cb1 2 _ rfl;have c1_3:=cb1 3 _ rfl;have c1_4:=cb1 4 _ rfl;have ZH:=Zg hW;have Zw:=Zg hz;clear hW hz cb0 cb1;by_cases k1k:ia<0
 case neg =>
  have k1kb:decide (ia<0)=false:=decide_eq_false k1k;have dge:decide (0≤ia)=true:=decide_eq_true (by omega);have dpp:0≤ia:=by omega
  have dgm:decide ((q1n:Int)≤ia)=true:=decide_eq_true (by omega);have hF:=Zg (show (.bool false:Value)=R by first|exact hR|(rw[←hR];simp[k1k]));clear hR;go_enter func56,ntmps56;go_upto_region 1 with (fail)
  rw[ZH.out];go_wp2_with fail;go_ret;exact⟨congrArg Zf hF.out,by rw[Zw.out,Zx];exact⟨_,rfl⟩⟩
 case pos =>
  have k1kb:decide (ia<0)=true:=decide_eq_true k1k;have dlt:decide (0≤ia)=false:=decide_eq_false (by omega);have dnn:¬0≤ia:=by omega
  have hF:=Zg (show (.bool false:Value)=R by first|exact hR|(rw[←hR];simp[k1k]));clear hR;go_enter func56,ntmps56;go_upto_region 1 with (fail)
  rw[ZH.out];go_wp2_with fail;go_ret;exact⟨congrArg Zf hF.out,by rw[Zw.out,Zx];exact⟨_,rfl⟩⟩
theorem HS(q0p q0n q0c)(q1n q1c:Nat)(q2p q2n q2c q3p q3n q3c q4p q4n q4c q5p q5n q5c q6p q6n q6c q7p q7n q7c q8p q8n q8c q9p q9n q9c q10p q10n q10c q11p q11n q11c act ib ep en ec it i many r x s0)(ma:Addr)(k:Nat)(w:World)(hk:k<q1n)(hd:ZG w (ma.add k) [.int .i64 x])(h0:Kp Zr w 7 #[.agg #[.slice q0p q0n q0c,.slice (some ma) q1n q1c,.slice q2p q2n q2c,.slice q3p q3n q3c,.slice q4p q4n q4c,.slice q5p q5n q5c,.slice q6p q6n q6c,.slice q7p q7n q7c,.slice q8p q8n q8c,.slice q9p q9n q9c,.slice q10p q10n q10c,.slice q11p q11n q11c],.int .i64 act,.slice ep en ec] (.tuple #[.int .i64 r,.bool s0])) :
  Kp Zr w 56 #[.agg #[.slice q0p q0n q0c,.slice (some ma) q1n q1c,.slice q2p q2n q2c,.slice q3p q3n q3c,.slice q4p q4n q4c,.slice q5p q5n q5c,.slice q6p q6n q6c,.slice q7p q7n q7c,.slice q8p q8n q8c,.slice q9p q9n q9c,.slice q10p q10n q10c,.slice q11p q11n q11c],.int .i64 act,.agg #[.int .u8 2,.int .i64 (k:Int),.int .i64 ib,.slice ep en ec,.int .i64 it],.int .i64 i,.int .i64 many] (.bool ((ib==0)&&((it==0)&&(if x==0 then ((en:Int)==0) else (s0&&(r==x)))))):=by
 intro y0;have h0:=h0.up y0;have hd:=hd.plus y0;have k5:decide ((k:Int)<0)=false:=decide_eq_false (by omega);have k0:¬((k:Int)<0):=by omega
 have k1:(k:Int)<(q1n:Int):=by omega
 have k2:decide (q1n≤k)=false:=decide_eq_false (by omega);have k3:(0:Int)≤(k:Int):=by omega
 have k4:decide (k<q1n)=true:=decide_eq_true (by omega);obtain⟨V,hV⟩:=Zv (plus w y0);rw[hV]at h0 hd ⊢;clear hV;obtain⟨R,hR⟩:=Zv ((.bool ((ib==0)&&((it==0)&&(if x==0 then ((en:Int)==0) else (s0&&(r==x)))))):Value);rw[hR];obtain⟨W,yy,hW,⟨z,hz⟩,cb0,cb1⟩:=ZF V #[.slice q0p q0n q0c,.slice (some ma) q1n q1c,.slice q2p q2n q2c,.slice q3p q3n q3c,.slice q4p q4n q4c,.slice q5p q5n q5c,.slice q6p q6n q6c,.slice q7p q7n q7c,.slice q8p q8n q8c,.slice q9p q9n q9c,.slice q10p q10n q10c,.slice q11p q11n q11c] #[.int .u8 2,.int .i64 (k:Int),.int .i64 ib,.slice ep en ec,.int .i64 it] 33 99;have c0_0:=cb0 0 _ rfl;have c0_1:=cb0 1 _ rfl;have c0_2:=cb0 2 _ rfl;have c0_3:=cb0 3 _ rfl;have c0_4:=cb0 4 _ rfl;have c0_5:=cb0 5 _ rfl;have c0_6:=cb0 6 _ rfl;have c0_7:=cb0 7 _ rfl;have c0_8:=cb0 8 _ rfl;have c0_9:=cb0 9 _ rfl;have c0_10:=cb0 10 _ rfl;have c0_11:=cb0 11 _ rfl;have c1_0:=cb1 0 _ rfl;have c1_1:=cb1 1 _ rfl;have c1_2:=cb1 2 _ rfl;have c1_3:=cb1 3 _ rfl;have c1_4:=cb1 4 _ rfl;have q0c:=Zg (Zy hz h0);have d0:∀y,(Go.Proofs.YtheaknidbcbneaaGreat.plus W y).cell? (ma.add k)=some (.int .i64 x):=fun y=>by rw[hz];exact ((hd.plus z).plus y).c0 _ rfl
 have ZH:=Zg hW;have Zw:=Zg hz;clear hW hz cb0 cb1 h0 hd;by_cases k1k:(ib==0)=true
 case neg =>
  have k1k:(ib==0)=false:=by simpa using k1k
  have k1kn:(ib !=0)=true:=by rw[bne,k1k];rfl
  have hF:=Zg (show (.bool false:Value)=R by first|exact hR|(rw[←hR];simp[k1k]));clear hR;go_enter func56,ntmps56;go_upto_region 1 with (fail)
  rw[ZH.out];go_wp2_with fail;go_ret;exact⟨congrArg Zf hF.out,by rw[Zw.out,Zx];exact⟨_,rfl⟩⟩
 case pos =>
  have k1kn:(ib !=0)=false:=by rw[bne,k1k];rfl
  by_cases k2k:(it==0)=true
  case neg =>
   have k2k:(it==0)=false:=by simpa using k2k
   have k2kn:(it !=0)=true:=by rw[bne,k2k];rfl
   have hF:=Zg (show (.bool false:Value)=R by first|exact hR|(rw[←hR];simp[k1k,k2k]));clear hR;go_enter func56,ntmps56;go_upto_region 1 with (fail)
   rw[ZH.out];go_wp2_with fail;go_ret;exact⟨congrArg Zf hF.out,by rw[Zw.out,Zx];exact⟨_,rfl⟩⟩
  case pos =>
   have k2kn:(it !=0)=false:=by rw[bne,k2k];rfl
   by_cases k3k:(x==0)=true
   case neg =>
    have k3k:(x==0)=false:=by simpa using k3k
    have k3kn:(x !=0)=true:=by rw[bne,k3k];rfl
    cases s0
    case false =>
     have hF:=Zg (show (.bool false:Value)=R by first|exact hR|(rw[←hR];simp[k1k,k2k,k3k]));clear hR;go_enter func56,ntmps56;go_upto_region 1 with (fail)
     rw[ZH.out];go_wp2_with fail;refine (q0c.out _).mono ?_;rintro e9 w9 ⟨rfl,x9,rfl⟩;go_wp2_with fail;go_ret;exact⟨congrArg Zf hF.out,by rw[Zw.out,Zx];exact⟨_,rfl⟩⟩
    case true =>
     have hF:=Zg (show (.bool (r==x):Value)=R by first|exact hR|(rw[←hR];simp[k1k,k2k,k3k]));clear hR;go_enter func56,ntmps56;go_upto_region 1 with (fail)
     rw[ZH.out];go_wp2_with fail;refine (q0c.out _).mono ?_;rintro e9 w9 ⟨rfl,x9,rfl⟩;go_wp2_with fail;go_ret;exact⟨congrArg Zf hF.out,by rw[Zw.out,Zx];exact⟨_,rfl⟩⟩
   case pos =>
    have k3kn:(x !=0)=false:=by rw[bne,k3k];rfl
    have hF:=Zg (show (.bool ((en:Int)==0):Value)=R by first|exact hR|(rw[←hR];simp[k1k,k2k,k3k]));clear hR;go_enter func56,ntmps56;go_upto_region 1 with (fail)
    rw[ZH.out];go_wp2_with fail;go_ret;exact⟨congrArg Zf hF.out,by rw[Zw.out,Zx];exact⟨_,rfl⟩⟩
theorem HO(q0p)(q0n q0c:Nat)(q1p q1n q1c q2p q2n q2c q3p q3n q3c q4p q4n q4c q5p q5n q5c q6p q6n q6c q7p q7n q7c q8p q8n q8c q9p q9n q9c q10p q10n q10c q11p q11n q11c act)(ia ib:Int)(ep en ec it i many w)(ho:¬(0≤ia∧ia<(q0n:Int))) :
  Kp Zr w 56 #[.agg #[.slice q0p q0n q0c,.slice q1p q1n q1c,.slice q2p q2n q2c,.slice q3p q3n q3c,.slice q4p q4n q4c,.slice q5p q5n q5c,.slice q6p q6n q6c,.slice q7p q7n q7c,.slice q8p q8n q8c,.slice q9p q9n q9c,.slice q10p q10n q10c,.slice q11p q11n q11c],.int .i64 act,.agg #[.int .u8 1,.int .i64 ia,.int .i64 ib,.slice ep en ec,.int .i64 it],.int .i64 i,.int .i64 many] (.bool (false)):=by
 intro y0;obtain⟨V,hV⟩:=Zv (plus w y0);rw[hV]at ⊢;clear hV;obtain⟨R,hR⟩:=Zv ((.bool (false)):Value);rw[hR];obtain⟨W,yy,hW,⟨z,hz⟩,cb0,cb1⟩:=ZF V #[.slice q0p q0n q0c,.slice q1p q1n q1c,.slice q2p q2n q2c,.slice q3p q3n q3c,.slice q4p q4n q4c,.slice q5p q5n q5c,.slice q6p q6n q6c,.slice q7p q7n q7c,.slice q8p q8n q8c,.slice q9p q9n q9c,.slice q10p q10n q10c,.slice q11p q11n q11c] #[.int .u8 1,.int .i64 ia,.int .i64 ib,.slice ep en ec,.int .i64 it] 33 99;have c0_0:=cb0 0 _ rfl;have c0_1:=cb0 1 _ rfl;have c0_2:=cb0 2 _ rfl;have c0_3:=cb0 3 _ rfl;have c0_4:=cb0 4 _ rfl;have c0_5:=cb0 5 _ rfl;have c0_6:=cb0 6 _ rfl;have c0_7:=cb0 7 _ rfl;have c0_8:=cb0 8 _ rfl;have c0_9:=cb0 9 _ rfl;have c0_10:=cb0 10 _ rfl;have c0_11:=cb0 11 _ rfl;have c1_0:=cb1 0 _ rfl;have c1_1:=cb1 1 _ rfl;have c1_2:=cb1 2 _ rfl;have c1_3:=cb1 3 _ rfl;have c1_4:=cb1 4 _ rfl;have ZH:=Zg hW;have Zw:=Zg hz;clear hW hz cb0 cb1;by_cases k1k:ia<0
 case neg =>
  have k1kb:decide (ia<0)=false:=decide_eq_false k1k;have dge:decide (0≤ia)=true:=decide_eq_true (by omega);have dpp:0≤ia:=by omega
  have dgm:decide (ia<(q0n:Int))=false:=decide_eq_false (by omega);have hF:=Zg (show (.bool false:Value)=R by first|exact hR|(rw[←hR];simp[k1k]));clear hR;go_enter func56,ntmps56;go_upto_region 1 with (fail)
  rw[ZH.out];go_wp2_with fail;refine ZP (by kernel_rfl) (by kernel_rfl) ?_;repeat (go_big_quiet_step (first|fail))
  refine wpQuiet_nil ?_;rintro _ ⟨yd,rfl⟩;go_wp2_with fail;go_ret;exact⟨congrArg Zf hF.out,by rw[Zw.out,Zx];exact⟨_,rfl⟩⟩
 case pos =>
  have k1kb:decide (ia<0)=true:=decide_eq_true k1k;have dlt:decide (0≤ia)=false:=decide_eq_false (by omega);have dnn:¬0≤ia:=by omega
  have hF:=Zg (show (.bool false:Value)=R by first|exact hR|(rw[←hR];simp[k1k]));clear hR;go_enter func56,ntmps56;go_upto_region 1 with (fail)
  rw[ZH.out];go_wp2_with fail;refine ZP (by kernel_rfl) (by kernel_rfl) ?_;repeat (go_big_quiet_step (first|fail))
  refine wpQuiet_nil ?_;rintro _ ⟨yd,rfl⟩;go_wp2_with fail;go_ret;exact⟨congrArg Zf hF.out,by rw[Zw.out,Zx];exact⟨_,rfl⟩⟩
theorem HP(q0n q0c:Nat)(q1p q1n q1c q2p q2n q2c q3p q3n q3c q4p q4n q4c q5p q5n q5c q6p q6n q6c q7p q7n q7c q8p q8n q8c q9p q9n q9c q10p q10n q10c q11p q11n q11c act)(ib:Int)(ep en ec it i many)(ha:Addr)(fp)(k fn fc:Nat)(w:World)(hk:k<q0n)(ho:¬(0≤ib∧ib<(fn:Int)))(hd:ZG w (ha.add k) [.slice fp fn fc]) :
  Kp Zr w 56 #[.agg #[.slice (some ha) q0n q0c,.slice q1p q1n q1c,.slice q2p q2n q2c,.slice q3p q3n q3c,.slice q4p q4n q4c,.slice q5p q5n q5c,.slice q6p q6n q6c,.slice q7p q7n q7c,.slice q8p q8n q8c,.slice q9p q9n q9c,.slice q10p q10n q10c,.slice q11p q11n q11c],.int .i64 act,.agg #[.int .u8 1,.int .i64 (k:Int),.int .i64 ib,.slice ep en ec,.int .i64 it],.int .i64 i,.int .i64 many] (.bool (false)):=by
 intro y0;have hd:=hd.plus y0;have k5:decide ((k:Int)<0)=false:=decide_eq_false (by omega);have k0:¬((k:Int)<0):=by omega
 have k1:(k:Int)<(q0n:Int):=by omega
 have k2:decide (q0n≤k)=false:=decide_eq_false (by omega);have k3:(0:Int)≤(k:Int):=by omega
 have k4:decide (k<q0n)=true:=decide_eq_true (by omega);obtain⟨V,hV⟩:=Zv (plus w y0);rw[hV]at hd ⊢;clear hV;obtain⟨R,hR⟩:=Zv ((.bool (false)):Value);rw[hR];obtain⟨W,yy,hW,⟨z,hz⟩,cb0,cb1⟩:=ZF V #[.slice (some ha) q0n q0c,.slice q1p q1n q1c,.slice q2p q2n q2c,.slice q3p q3n q3c,.slice q4p q4n q4c,.slice q5p q5n q5c,.slice q6p q6n q6c,.slice q7p q7n q7c,.slice q8p q8n q8c,.slice q9p q9n q9c,.slice q10p q10n q10c,.slice q11p q11n q11c] #[.int .u8 1,.int .i64 (k:Int),.int .i64 ib,.slice ep en ec,.int .i64 it] 33 99;have c0_0:=cb0 0 _ rfl;have c0_1:=cb0 1 _ rfl;have c0_2:=cb0 2 _ rfl;have c0_3:=cb0 3 _ rfl;have c0_4:=cb0 4 _ rfl;have c0_5:=cb0 5 _ rfl;have c0_6:=cb0 6 _ rfl;have c0_7:=cb0 7 _ rfl;have c0_8:=cb0 8 _ rfl;have c0_9:=cb0 9 _ rfl;have c0_10:=cb0 10 _ rfl;have c0_11:=cb0 11 _ rfl;have c1_0:=cb1 0 _ rfl;have c1_1:=cb1 1 _ rfl;have c1_2:=cb1 2 _ rfl;have c1_3:=cb1 3 _ rfl;have c1_4:=cb1 4 _ rfl;have d0:∀y,(Go.Proofs.YtheaknidbcbneaaGreat.plus W y).cell? (ha.add k)=some (.slice fp fn fc):=fun y=>by rw[hz];exact ((hd.plus z).plus y).c0 _ rfl
 have ZH:=Zg hW;have Zw:=Zg hz;clear hW hz cb0 cb1 hd;by_cases k1k:ib<0
 case neg =>
  have k1kb:decide (ib<0)=false:=decide_eq_false k1k;have dgm:decide ((fn:Int)≤ib)=true:=decide_eq_true (by omega);have hF:=Zg (show (.bool false:Value)=R by first|exact hR|(rw[←hR];simp[k1k]));clear hR;go_enter func56,ntmps56;go_upto_region 1 with (fail)
  rw[ZH.out];go_wp2_with fail;refine ZP (by kernel_rfl) (by kernel_rfl) ?_;repeat (go_big_quiet_step (first|fail))
  refine wpQuiet_nil ?_;rintro _ ⟨yd,rfl⟩;go_wp2_with fail;go_ret;exact⟨congrArg Zf hF.out,by rw[Zw.out,Zx];exact⟨_,rfl⟩⟩
 case pos =>
  have k1kb:decide (ib<0)=true:=decide_eq_true k1k;have hF:=Zg (show (.bool false:Value)=R by first|exact hR|(rw[←hR];simp[k1k]));clear hR;go_enter func56,ntmps56;go_upto_region 1 with (fail)
  rw[ZH.out];go_wp2_with fail;refine ZP (by kernel_rfl) (by kernel_rfl) ?_;repeat (go_big_quiet_step (first|fail))
  refine wpQuiet_nil ?_;rintro _ ⟨yd,rfl⟩;go_wp2_with fail;go_ret;exact⟨congrArg Zf hF.out,by rw[Zw.out,Zx];exact⟨_,rfl⟩⟩
theorem HQ(q0n q0c:Nat)(q1p q1n q1c q2p q2n q2c q3p q3n q3c q4p q4n q4c q5p q5n q5c q6p q6n q6c q7p q7n q7c q8p q8n q8c q9p q9n q9c q10p q10n q10c q11p q11n q11c act ep en ec it i many r x s0)(ha fa:Addr)(k j fn fc:Nat)(w:World)(hk:k<q0n)(hj:j<fn)(hd:ZG w (ha.add k) [.slice (some fa) fn fc])(he:ZG w (fa.add j) [.int .i64 x])(h0:Kp Zr w 7 #[.agg #[.slice (some ha) q0n q0c,.slice q1p q1n q1c,.slice q2p q2n q2c,.slice q3p q3n q3c,.slice q4p q4n q4c,.slice q5p q5n q5c,.slice q6p q6n q6c,.slice q7p q7n q7c,.slice q8p q8n q8c,.slice q9p q9n q9c,.slice q10p q10n q10c,.slice q11p q11n q11c],.int .i64 act,.slice ep en ec] (.tuple #[.int .i64 r,.bool s0])) :
  Kp Zr w 56 #[.agg #[.slice (some ha) q0n q0c,.slice q1p q1n q1c,.slice q2p q2n q2c,.slice q3p q3n q3c,.slice q4p q4n q4c,.slice q5p q5n q5c,.slice q6p q6n q6c,.slice q7p q7n q7c,.slice q8p q8n q8c,.slice q9p q9n q9c,.slice q10p q10n q10c,.slice q11p q11n q11c],.int .i64 act,.agg #[.int .u8 1,.int .i64 (k:Int),.int .i64 (j:Int),.slice ep en ec,.int .i64 it],.int .i64 i,.int .i64 many] (.bool ((it==0)&&(if x==0 then ((en:Int)==0) else (s0&&(r==x))))):=by
 intro y0;have h0:=h0.up y0;have hd:=hd.plus y0;have he:=he.plus y0;have k5:decide ((k:Int)<0)=false:=decide_eq_false (by omega);have k0:¬((k:Int)<0):=by omega
 have k1:(k:Int)<(q0n:Int):=by omega
 have k2:decide (q0n≤k)=false:=decide_eq_false (by omega);have k3:(0:Int)≤(k:Int):=by omega
 have k4:decide (k<q0n)=true:=decide_eq_true (by omega);have j5:decide ((j:Int)<0)=false:=decide_eq_false (by omega);have j0:¬((j:Int)<0):=by omega
 have j1:(j:Int)<(fn:Int):=by omega
 have j2:decide (fn≤j)=false:=decide_eq_false (by omega);have j3:(0:Int)≤(j:Int):=by omega
 have j4:decide (j<fn)=true:=decide_eq_true (by omega);obtain⟨V,hV⟩:=Zv (plus w y0);rw[hV]at h0 hd he ⊢;clear hV;obtain⟨R,hR⟩:=Zv ((.bool ((it==0)&&(if x==0 then ((en:Int)==0) else (s0&&(r==x))))):Value);rw[hR];obtain⟨W,yy,hW,⟨z,hz⟩,cb0,cb1⟩:=ZF V #[.slice (some ha) q0n q0c,.slice q1p q1n q1c,.slice q2p q2n q2c,.slice q3p q3n q3c,.slice q4p q4n q4c,.slice q5p q5n q5c,.slice q6p q6n q6c,.slice q7p q7n q7c,.slice q8p q8n q8c,.slice q9p q9n q9c,.slice q10p q10n q10c,.slice q11p q11n q11c] #[.int .u8 1,.int .i64 (k:Int),.int .i64 (j:Int),.slice ep en ec,.int .i64 it] 33 99;have c0_0:=cb0 0 _ rfl;have c0_1:=cb0 1 _ rfl;have c0_2:=cb0 2 _ rfl;have c0_3:=cb0 3 _ rfl;have c0_4:=cb0 4 _ rfl;have c0_5:=cb0 5 _ rfl;have c0_6:=cb0 6 _ rfl;have c0_7:=cb0 7 _ rfl;have c0_8:=cb0 8 _ rfl;have c0_9:=cb0 9 _ rfl;have c0_10:=cb0 10 _ rfl;have c0_11:=cb0 11 _ rfl;have c1_0:=cb1 0 _ rfl;have c1_1:=cb1 1 _ rfl;have c1_2:=cb1 2 _ rfl;have c1_3:=cb1 3 _ rfl;have c1_4:=cb1 4 _ rfl;have q0c:=Zg (Zy hz h0);have d0:∀y,(Go.Proofs.YtheaknidbcbneaaGreat.plus W y).cell? (ha.add k)=some (.slice (some fa) fn fc):=fun y=>by rw[hz];exact ((hd.plus z).plus y).c0 _ rfl
 have d1:∀y,(Go.Proofs.YtheaknidbcbneaaGreat.plus W y).cell? (fa.add j)=some (.int .i64 x):=fun y=>by rw[hz];exact ((he.plus z).plus y).c0 _ rfl
 have ZH:=Zg hW;have Zw:=Zg hz;clear hW hz cb0 cb1 h0 hd he;by_cases k1k:(it==0)=true
 case neg =>
  have k1k:(it==0)=false:=by simpa using k1k
  have k1kn:(it !=0)=true:=by rw[bne,k1k];rfl
  have hF:=Zg (show (.bool false:Value)=R by first|exact hR|(rw[←hR];simp[k1k]));clear hR;go_enter func56,ntmps56;go_upto_region 1 with (fail)
  rw[ZH.out];go_wp2_with fail;refine ZP (by kernel_rfl) (by kernel_rfl) ?_;repeat (go_big_quiet_step (first|(with_reducible exact q0c.out _)|fail))
  refine wpQuiet_nil ?_;rintro _ ⟨yd,rfl⟩;go_wp2_with fail;refine ZP (by kernel_rfl) (by kernel_rfl) ?_;repeat (go_big_quiet_step (first|(with_reducible exact q0c.out _)|fail))
  refine wpQuiet_nil ?_;rintro _ ⟨yd,rfl⟩;go_wp2_with fail;go_ret;exact⟨congrArg Zf hF.out,by rw[Zw.out,Zx];exact⟨_,rfl⟩⟩
 case pos =>
  have k1kn:(it !=0)=false:=by rw[bne,k1k];rfl
  by_cases k2k:(x==0)=true
  case neg =>
   have k2k:(x==0)=false:=by simpa using k2k
   have k2kn:(x !=0)=true:=by rw[bne,k2k];rfl
   cases s0
   case false =>
    have hF:=Zg (show (.bool false:Value)=R by first|exact hR|(rw[←hR];simp[k1k,k2k]));clear hR;go_enter func56,ntmps56;go_upto_region 1 with (fail)
    rw[ZH.out];go_wp2_with fail;refine ZP (by kernel_rfl) (by kernel_rfl) ?_;repeat (go_big_quiet_step (first|(with_reducible exact q0c.out _)|fail))
    refine wpQuiet_nil ?_;rintro _ ⟨yd,rfl⟩;go_wp2_with fail;refine ZP (by kernel_rfl) (by kernel_rfl) ?_;repeat (go_big_quiet_step (first|(with_reducible exact q0c.out _)|fail))
    refine wpQuiet_nil ?_;rintro _ ⟨yd,rfl⟩;go_wp2_with fail;refine (q0c.out _).mono ?_;rintro e9 w9 ⟨rfl,x9,rfl⟩;go_wp2_with fail;go_ret;exact⟨congrArg Zf hF.out,by rw[Zw.out,Zx];exact⟨_,rfl⟩⟩
   case true =>
    have hF:=Zg (show (.bool (r==x):Value)=R by first|exact hR|(rw[←hR];simp[k1k,k2k]));clear hR;go_enter func56,ntmps56;go_upto_region 1 with (fail)
    rw[ZH.out];go_wp2_with fail;refine ZP (by kernel_rfl) (by kernel_rfl) ?_;repeat (go_big_quiet_step (first|(with_reducible exact q0c.out _)|fail))
    refine wpQuiet_nil ?_;rintro _ ⟨yd,rfl⟩;go_wp2_with fail;refine ZP (by kernel_rfl) (by kernel_rfl) ?_;repeat (go_big_quiet_step (first|(with_reducible exact q0c.out _)|fail))
    refine wpQuiet_nil ?_;rintro _ ⟨yd,rfl⟩;go_wp2_with fail;refine (q0c.out _).mono ?_;rintro e9 w9 ⟨rfl,x9,rfl⟩;go_wp2_with fail;go_ret;exact⟨congrArg Zf hF.out,by rw[Zw.out,Zx];exact⟨_,rfl⟩⟩
  case pos =>
   have k2kn:(x !=0)=false:=by rw[bne,k2k];rfl
   have hF:=Zg (show (.bool ((en:Int)==0):Value)=R by first|exact hR|(rw[←hR];simp[k1k,k2k]));clear hR;go_enter func56,ntmps56;go_upto_region 1 with (fail)
   rw[ZH.out];go_wp2_with fail;refine ZP (by kernel_rfl) (by kernel_rfl) ?_;repeat (go_big_quiet_step (first|(with_reducible exact q0c.out _)|fail))
   refine wpQuiet_nil ?_;rintro _ ⟨yd,rfl⟩;go_wp2_with fail;refine ZP (by kernel_rfl) (by kernel_rfl) ?_;repeat (go_big_quiet_step (first|(with_reducible exact q0c.out _)|fail))
   refine wpQuiet_nil ?_;rintro _ ⟨yd,rfl⟩;go_wp2_with fail;go_ret;exact⟨congrArg Zf hF.out,by rw[Zw.out,Zx];exact⟨_,rfl⟩⟩
end Go.Proofs.YtheaknidbcbneaaGreat

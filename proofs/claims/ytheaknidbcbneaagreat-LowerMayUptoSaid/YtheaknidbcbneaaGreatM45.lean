/-
  WHAT IS PROVED HERE: a part of the proof (made narrower and merged by program; the parts: Lrj).
-/
import Derived.Test.YtheaknidbcbneaaGreatM42
set_option maxRecDepth 100000
set_option maxHeartbeats 8000000
set_option linter.all false
namespace Go.Proofs.YtheaknidbcbneaaGreat
open Go.RowKit Go.Proofs.Tryz
open Ending renaming returned→Zf
open Lib renaming hid→Zg
open Go.Proofs.Tryz renaming prog→Zr
open Go.RowKit
theorem HU(q0p q0n q0c q1p q1n q1c q2p q2n q2c q3p q3n q3c q4p q4n q4c q5p q5n q5c q6p q6n q6c q7p q7n q7c q8p q8n q8c q9p q9n q9c q10p q10n q10c q11p q11n q11c act ia ib ep en ec it i many w) :
  Kp Zr w 56 #[.agg #[.slice q0p q0n q0c,.slice q1p q1n q1c,.slice q2p q2n q2c,.slice q3p q3n q3c,.slice q4p q4n q4c,.slice q5p q5n q5c,.slice q6p q6n q6c,.slice q7p q7n q7c,.slice q8p q8n q8c,.slice q9p q9n q9c,.slice q10p q10n q10c,.slice q11p q11n q11c],.int .i64 act,.agg #[.int .u8 4,.int .i64 ia,.int .i64 ib,.slice ep en ec,.int .i64 it],.int .i64 i,.int .i64 many] (.bool ((ia==0)&&((ib==0)&&((it==0)&&((en:Int)==0))))):=by
 intro y0;obtain⟨V,hV⟩:=Zv (plus w y0);rw[hV]at ⊢;clear hV;obtain⟨R,hR⟩:=Zv ((.bool ((ia==0)&&((ib==0)&&((it==0)&&((en:Int)==0))))):Value);rw[hR];obtain⟨W,yy,hW,⟨z,hz⟩,cb0,cb1⟩:=ZF V #[.slice q0p q0n q0c,.slice q1p q1n q1c,.slice q2p q2n q2c,.slice q3p q3n q3c,.slice q4p q4n q4c,.slice q5p q5n q5c,.slice q6p q6n q6c,.slice q7p q7n q7c,.slice q8p q8n q8c,.slice q9p q9n q9c,.slice q10p q10n q10c,.slice q11p q11n q11c] #[.int .u8 4,.int .i64 ia,.int .i64 ib,.slice ep en ec,.int .i64 it] 33 99;have c0_0:=cb0 0 _ rfl;have c0_1:=cb0 1 _ rfl;have c0_2:=cb0 2 _ rfl;have c0_3:=cb0 3 _ rfl;have c0_4:=cb0 4 _ rfl;have c0_5:=cb0 5 _ rfl;have c0_6:=cb0 6 _ rfl;have c0_7:=cb0 7 _ rfl;have c0_8:=cb0 8 _ rfl;have c0_9:=cb0 9 _ rfl;have c0_10:=cb0 10 _ rfl;have c0_11:=cb0 11 _ rfl;have c1_0:=cb1 0 _ rfl;have c1_1:=cb1 1 _ rfl;have c1_2:=cb1 2 _ rfl;have c1_3:=cb1 3 _ rfl;have c1_4:=cb1 4 _ rfl;have ZH:=Zg hW;have Zw:=Zg hz;clear hW hz cb0 cb1;by_cases k1k:0≤ia
 case neg =>
  have k1kb:decide (0≤ia)=false:=decide_eq_false k1k;by_cases k2k:(ia==0)=true
  case neg =>
   have k2k:(ia==0)=false:=by simpa using k2k
   have k2kn:(ia !=0)=true:=by rw[bne,k2k];rfl
   have hF:=Zg (show (.bool false:Value)=R by first|exact hR|(rw[←hR];simp[k1k,k2k]));clear hR;go_enter func56,ntmps56;go_upto_region 1 with (fail)
   rw[ZH.out];go_wp2_with fail;go_ret;exact⟨congrArg Zf hF.out,by rw[Zw.out,Zx];exact⟨_,rfl⟩⟩
  case pos =>
   have k2kn:(ia !=0)=false:=by rw[bne,k2k];rfl
   by_cases k3k:(ib==0)=true
   case neg =>
    have k3k:(ib==0)=false:=by simpa using k3k
    have k3kn:(ib !=0)=true:=by rw[bne,k3k];rfl
    have hF:=Zg (show (.bool false:Value)=R by first|exact hR|(rw[←hR];simp[k1k,k2k,k3k]));clear hR;go_enter func56,ntmps56;go_upto_region 1 with (fail)
    rw[ZH.out];go_wp2_with fail;go_ret;exact⟨congrArg Zf hF.out,by rw[Zw.out,Zx];exact⟨_,rfl⟩⟩
   case pos =>
    have k3kn:(ib !=0)=false:=by rw[bne,k3k];rfl
    by_cases k4k:(it==0)=true
    case neg =>
     have k4k:(it==0)=false:=by simpa using k4k
     have k4kn:(it !=0)=true:=by rw[bne,k4k];rfl
     have hF:=Zg (show (.bool false:Value)=R by first|exact hR|(rw[←hR];simp[k1k,k2k,k3k,k4k]));clear hR;go_enter func56,ntmps56;go_upto_region 1 with (fail)
     rw[ZH.out];go_wp2_with fail;go_ret;exact⟨congrArg Zf hF.out,by rw[Zw.out,Zx];exact⟨_,rfl⟩⟩
    case pos =>
     have k4kn:(it !=0)=false:=by rw[bne,k4k];rfl
     have hF:=Zg (show (.bool ((en:Int)==0):Value)=R by first|exact hR|(rw[←hR];simp[k1k,k2k,k3k,k4k]));clear hR;go_enter func56,ntmps56;go_upto_region 1 with (fail)
     rw[ZH.out];go_wp2_with fail;go_ret;exact⟨congrArg Zf hF.out,by rw[Zw.out,Zx];exact⟨_,rfl⟩⟩
 case pos =>
  have k1kb:decide (0≤ia)=true:=decide_eq_true k1k;by_cases k5k:(ia==0)=true
  case neg =>
   have k5k:(ia==0)=false:=by simpa using k5k
   have k5kn:(ia !=0)=true:=by rw[bne,k5k];rfl
   have hF:=Zg (show (.bool false:Value)=R by first|exact hR|(rw[←hR];simp[k1k,k5k]));clear hR;go_enter func56,ntmps56;go_upto_region 1 with (fail)
   rw[ZH.out];go_wp2_with fail;go_ret;exact⟨congrArg Zf hF.out,by rw[Zw.out,Zx];exact⟨_,rfl⟩⟩
  case pos =>
   have k5kn:(ia !=0)=false:=by rw[bne,k5k];rfl
   by_cases k6k:(ib==0)=true
   case neg =>
    have k6k:(ib==0)=false:=by simpa using k6k
    have k6kn:(ib !=0)=true:=by rw[bne,k6k];rfl
    have hF:=Zg (show (.bool false:Value)=R by first|exact hR|(rw[←hR];simp[k1k,k5k,k6k]));clear hR;go_enter func56,ntmps56;go_upto_region 1 with (fail)
    rw[ZH.out];go_wp2_with fail;go_ret;exact⟨congrArg Zf hF.out,by rw[Zw.out,Zx];exact⟨_,rfl⟩⟩
   case pos =>
    have k6kn:(ib !=0)=false:=by rw[bne,k6k];rfl
    by_cases k7k:(it==0)=true
    case neg =>
     have k7k:(it==0)=false:=by simpa using k7k
     have k7kn:(it !=0)=true:=by rw[bne,k7k];rfl
     have hF:=Zg (show (.bool false:Value)=R by first|exact hR|(rw[←hR];simp[k1k,k5k,k6k,k7k]));clear hR;go_enter func56,ntmps56;go_upto_region 1 with (fail)
     rw[ZH.out];go_wp2_with fail;go_ret;exact⟨congrArg Zf hF.out,by rw[Zw.out,Zx];exact⟨_,rfl⟩⟩
    case pos =>
     have k7kn:(it !=0)=false:=by rw[bne,k7k];rfl
     have hF:=Zg (show (.bool ((en:Int)==0):Value)=R by first|exact hR|(rw[←hR];simp[k1k,k5k,k6k,k7k]));clear hR;go_enter func56,ntmps56;go_upto_region 1 with (fail)
     rw[ZH.out];go_wp2_with fail;go_ret;exact⟨congrArg Zf hF.out,by rw[Zw.out,Zx];exact⟨_,rfl⟩⟩
theorem HV(q0p q0n q0c q1p q1n q1c q2p q2n q2c q3p q3n q3c q4p q4n q4c q5p q5n q5c q6p q6n q6c q7p q7n q7c q8p q8n q8c q9p q9n q9c q10p q10n q10c q11p q11n q11c act ia ib ep en ec it i many r s0 w)(h0:Kp Zr w 7 #[.agg #[.slice q0p q0n q0c,.slice q1p q1n q1c,.slice q2p q2n q2c,.slice q3p q3n q3c,.slice q4p q4n q4c,.slice q5p q5n q5c,.slice q6p q6n q6c,.slice q7p q7n q7c,.slice q8p q8n q8c,.slice q9p q9n q9c,.slice q10p q10n q10c,.slice q11p q11n q11c],.int .i64 act,.slice ep en ec] (.tuple #[.int .i64 r,.bool s0])) :
  Kp Zr w 56 #[.agg #[.slice q0p q0n q0c,.slice q1p q1n q1c,.slice q2p q2n q2c,.slice q3p q3n q3c,.slice q4p q4n q4c,.slice q5p q5n q5c,.slice q6p q6n q6c,.slice q7p q7n q7c,.slice q8p q8n q8c,.slice q9p q9n q9c,.slice q10p q10n q10c,.slice q11p q11n q11c],.int .i64 act,.agg #[.int .u8 5,.int .i64 ia,.int .i64 ib,.slice ep en ec,.int .i64 it],.int .i64 i,.int .i64 many] (.bool ((ia==0)&&((ib==0)&&((it==0)&&(s0&&(r==9)))))):=by
 intro y0;have h0:=h0.up y0;obtain⟨V,hV⟩:=Zv (plus w y0);rw[hV]at h0 ⊢;clear hV;obtain⟨R,hR⟩:=Zv ((.bool ((ia==0)&&((ib==0)&&((it==0)&&(s0&&(r==9)))))):Value);rw[hR];obtain⟨W,yy,hW,⟨z,hz⟩,cb0,cb1⟩:=ZF V #[.slice q0p q0n q0c,.slice q1p q1n q1c,.slice q2p q2n q2c,.slice q3p q3n q3c,.slice q4p q4n q4c,.slice q5p q5n q5c,.slice q6p q6n q6c,.slice q7p q7n q7c,.slice q8p q8n q8c,.slice q9p q9n q9c,.slice q10p q10n q10c,.slice q11p q11n q11c] #[.int .u8 5,.int .i64 ia,.int .i64 ib,.slice ep en ec,.int .i64 it] 33 99;have c0_0:=cb0 0 _ rfl;have c0_1:=cb0 1 _ rfl;have c0_2:=cb0 2 _ rfl;have c0_3:=cb0 3 _ rfl;have c0_4:=cb0 4 _ rfl;have c0_5:=cb0 5 _ rfl;have c0_6:=cb0 6 _ rfl;have c0_7:=cb0 7 _ rfl;have c0_8:=cb0 8 _ rfl;have c0_9:=cb0 9 _ rfl;have c0_10:=cb0 10 _ rfl;have c0_11:=cb0 11 _ rfl;have c1_0:=cb1 0 _ rfl;have c1_1:=cb1 1 _ rfl;have c1_2:=cb1 2 _ rfl;have c1_3:=cb1 3 _ rfl;have c1_4:=cb1 4 _ rfl;have q0c:=Zg (Zy hz h0);have ZH:=Zg hW;have Zw:=Zg hz;clear hW hz cb0 cb1 h0;by_cases k1k:0≤ia
 case neg =>
  have k1kb:decide (0≤ia)=false:=decide_eq_false k1k;by_cases k2k:(ia==0)=true
  case neg =>
   have k2k:(ia==0)=false:=by simpa using k2k
   have k2kn:(ia !=0)=true:=by rw[bne,k2k];rfl
   have hF:=Zg (show (.bool false:Value)=R by first|exact hR|(rw[←hR];simp[k1k,k2k]));clear hR;go_enter func56,ntmps56;go_upto_region 1 with (fail)
   rw[ZH.out];go_wp2_with fail;go_ret;exact⟨congrArg Zf hF.out,by rw[Zw.out,Zx];exact⟨_,rfl⟩⟩
  case pos =>
   have k2kn:(ia !=0)=false:=by rw[bne,k2k];rfl
   by_cases k3k:(ib==0)=true
   case neg =>
    have k3k:(ib==0)=false:=by simpa using k3k
    have k3kn:(ib !=0)=true:=by rw[bne,k3k];rfl
    have hF:=Zg (show (.bool false:Value)=R by first|exact hR|(rw[←hR];simp[k1k,k2k,k3k]));clear hR;go_enter func56,ntmps56;go_upto_region 1 with (fail)
    rw[ZH.out];go_wp2_with fail;go_ret;exact⟨congrArg Zf hF.out,by rw[Zw.out,Zx];exact⟨_,rfl⟩⟩
   case pos =>
    have k3kn:(ib !=0)=false:=by rw[bne,k3k];rfl
    by_cases k4k:(it==0)=true
    case neg =>
     have k4k:(it==0)=false:=by simpa using k4k
     have k4kn:(it !=0)=true:=by rw[bne,k4k];rfl
     have hF:=Zg (show (.bool false:Value)=R by first|exact hR|(rw[←hR];simp[k1k,k2k,k3k,k4k]));clear hR;go_enter func56,ntmps56;go_upto_region 1 with (fail)
     rw[ZH.out];go_wp2_with fail;go_ret;exact⟨congrArg Zf hF.out,by rw[Zw.out,Zx];exact⟨_,rfl⟩⟩
    case pos =>
     have k4kn:(it !=0)=false:=by rw[bne,k4k];rfl
     cases s0
     case false =>
      have hF:=Zg (show (.bool false:Value)=R by first|exact hR|(rw[←hR];simp[k1k,k2k,k3k,k4k]));clear hR;go_enter func56,ntmps56;go_upto_region 1 with (fail)
      rw[ZH.out];go_wp2_with fail;refine (q0c.out _).mono ?_;rintro e9 w9 ⟨rfl,x9,rfl⟩;go_wp2_with fail;go_ret;exact⟨congrArg Zf hF.out,by rw[Zw.out,Zx];exact⟨_,rfl⟩⟩
     case true =>
      have hF:=Zg (show (.bool (r==9):Value)=R by first|exact hR|(rw[←hR];simp[k1k,k2k,k3k,k4k]));clear hR;go_enter func56,ntmps56;go_upto_region 1 with (fail)
      rw[ZH.out];go_wp2_with fail;refine (q0c.out _).mono ?_;rintro e9 w9 ⟨rfl,x9,rfl⟩;go_wp2_with fail;go_ret;exact⟨congrArg Zf hF.out,by rw[Zw.out,Zx];exact⟨_,rfl⟩⟩
 case pos =>
  have k1kb:decide (0≤ia)=true:=decide_eq_true k1k;by_cases k5k:(ia==0)=true
  case neg =>
   have k5k:(ia==0)=false:=by simpa using k5k
   have k5kn:(ia !=0)=true:=by rw[bne,k5k];rfl
   have hF:=Zg (show (.bool false:Value)=R by first|exact hR|(rw[←hR];simp[k1k,k5k]));clear hR;go_enter func56,ntmps56;go_upto_region 1 with (fail)
   rw[ZH.out];go_wp2_with fail;go_ret;exact⟨congrArg Zf hF.out,by rw[Zw.out,Zx];exact⟨_,rfl⟩⟩
  case pos =>
   have k5kn:(ia !=0)=false:=by rw[bne,k5k];rfl
   by_cases k6k:(ib==0)=true
   case neg =>
    have k6k:(ib==0)=false:=by simpa using k6k
    have k6kn:(ib !=0)=true:=by rw[bne,k6k];rfl
    have hF:=Zg (show (.bool false:Value)=R by first|exact hR|(rw[←hR];simp[k1k,k5k,k6k]));clear hR;go_enter func56,ntmps56;go_upto_region 1 with (fail)
    rw[ZH.out];go_wp2_with fail;go_ret;exact⟨congrArg Zf hF.out,by rw[Zw.out,Zx];exact⟨_,rfl⟩⟩
   case pos =>
    have k6kn:(ib !=0)=false:=by rw[bne,k6k];rfl
    by_cases k7k:(it==0)=true
    case neg =>
     have k7k:(it==0)=false:=by simpa using k7k
     have k7kn:(it !=0)=true:=by rw[bne,k7k];rfl
     have hF:=Zg (show (.bool false:Value)=R by first|exact hR|(rw[←hR];simp[k1k,k5k,k6k,k7k]));clear hR;go_enter func56,ntmps56;go_upto_region 1 with (fail)
     rw[ZH.out];go_wp2_with fail;go_ret;exact⟨congrArg Zf hF.out,by rw[Zw.out,Zx];exact⟨_,rfl⟩⟩
    case pos =>
     have k7kn:(it !=0)=false:=by rw[bne,k7k];rfl
     cases s0
     case false =>
      have hF:=Zg (show (.bool false:Value)=R by first|exact hR|(rw[←hR];simp[k1k,k5k,k6k,k7k]));clear hR;go_enter func56,ntmps56;go_upto_region 1 with (fail)
      rw[ZH.out];go_wp2_with fail;refine (q0c.out _).mono ?_;rintro e9 w9 ⟨rfl,x9,rfl⟩;go_wp2_with fail;go_ret;exact⟨congrArg Zf hF.out,by rw[Zw.out,Zx];exact⟨_,rfl⟩⟩
     case true =>
      have hF:=Zg (show (.bool (r==9):Value)=R by first|exact hR|(rw[←hR];simp[k1k,k5k,k6k,k7k]));clear hR;go_enter func56,ntmps56;go_upto_region 1 with (fail)
      rw[ZH.out];go_wp2_with fail;refine (q0c.out _).mono ?_;rintro e9 w9 ⟨rfl,x9,rfl⟩;go_wp2_with fail;go_ret;exact⟨congrArg Zf hF.out,by rw[Zw.out,Zx];exact⟨_,rfl⟩⟩
theorem HY(q0p q0n q0c q1p q1n q1c q2p q2n q2c q3p q3n q3c q4p q4n q4c q5p q5n q5c q6p q6n q6c q7p q7n q7c q8p q8n q8c q9p q9n q9c q10p q10n q10c q11p q11n q11c act ia ib ep en ec it i many w) :
  Kp Zr w 56 #[.agg #[.slice q0p q0n q0c,.slice q1p q1n q1c,.slice q2p q2n q2c,.slice q3p q3n q3c,.slice q4p q4n q4c,.slice q5p q5n q5c,.slice q6p q6n q6c,.slice q7p q7n q7c,.slice q8p q8n q8c,.slice q9p q9n q9c,.slice q10p q10n q10c,.slice q11p q11n q11c],.int .i64 act,.agg #[.int .u8 8,.int .i64 ia,.int .i64 ib,.slice ep en ec,.int .i64 it],.int .i64 i,.int .i64 many] (.bool ((ia==0)&&((ib==0)&&(!(decide (it≤i))&&(!(decide (many<it))&&((en:Int)==0)))))):=by
 intro y0;obtain⟨V,hV⟩:=Zv (plus w y0);rw[hV]at ⊢;clear hV;obtain⟨R,hR⟩:=Zv ((.bool ((ia==0)&&((ib==0)&&(!(decide (it≤i))&&(!(decide (many<it))&&((en:Int)==0)))))):Value);rw[hR];obtain⟨W,yy,hW,⟨z,hz⟩,cb0,cb1⟩:=ZF V #[.slice q0p q0n q0c,.slice q1p q1n q1c,.slice q2p q2n q2c,.slice q3p q3n q3c,.slice q4p q4n q4c,.slice q5p q5n q5c,.slice q6p q6n q6c,.slice q7p q7n q7c,.slice q8p q8n q8c,.slice q9p q9n q9c,.slice q10p q10n q10c,.slice q11p q11n q11c] #[.int .u8 8,.int .i64 ia,.int .i64 ib,.slice ep en ec,.int .i64 it] 33 99;have c0_0:=cb0 0 _ rfl;have c0_1:=cb0 1 _ rfl;have c0_2:=cb0 2 _ rfl;have c0_3:=cb0 3 _ rfl;have c0_4:=cb0 4 _ rfl;have c0_5:=cb0 5 _ rfl;have c0_6:=cb0 6 _ rfl;have c0_7:=cb0 7 _ rfl;have c0_8:=cb0 8 _ rfl;have c0_9:=cb0 9 _ rfl;have c0_10:=cb0 10 _ rfl;have c0_11:=cb0 11 _ rfl;have c1_0:=cb1 0 _ rfl;have c1_1:=cb1 1 _ rfl;have c1_2:=cb1 2 _ rfl;have c1_3:=cb1 3 _ rfl;have c1_4:=cb1 4 _ rfl;have ZH:=Zg hW;have Zw:=Zg hz;clear hW hz cb0 cb1;by_cases k1k:0≤ia
 case neg =>
  have k1kb:decide (0≤ia)=false:=decide_eq_false k1k;by_cases k2k:(ia==0)=true
  case neg =>
   have k2k:(ia==0)=false:=by simpa using k2k
   have k2kn:(ia !=0)=true:=by rw[bne,k2k];rfl
   have hF:=Zg (show (.bool false:Value)=R by first|exact hR|(rw[←hR];simp[k1k,k2k]));clear hR;go_enter func56,ntmps56;go_upto_region 1 with (fail)
   rw[ZH.out];go_wp2_with fail;go_ret;exact⟨congrArg Zf hF.out,by rw[Zw.out,Zx];exact⟨_,rfl⟩⟩
  case pos =>
   have k2kn:(ia !=0)=false:=by rw[bne,k2k];rfl
   by_cases k3k:(ib==0)=true
   case neg =>
    have k3k:(ib==0)=false:=by simpa using k3k
    have k3kn:(ib !=0)=true:=by rw[bne,k3k];rfl
    have hF:=Zg (show (.bool false:Value)=R by first|exact hR|(rw[←hR];simp[k1k,k2k,k3k]));clear hR;go_enter func56,ntmps56;go_upto_region 1 with (fail)
    rw[ZH.out];go_wp2_with fail;go_ret;exact⟨congrArg Zf hF.out,by rw[Zw.out,Zx];exact⟨_,rfl⟩⟩
   case pos =>
    have k3kn:(ib !=0)=false:=by rw[bne,k3k];rfl
    by_cases k4k:it≤i
    case neg =>
     have k4kb:decide (it≤i)=false:=decide_eq_false k4k;by_cases k5k:many<it
     case neg =>
      have k5kb:decide (many<it)=false:=decide_eq_false k5k;have hF:=Zg (show (.bool ((en:Int)==0):Value)=R by first|exact hR|(rw[←hR];simp[k1k,k2k,k3k,k4k,k5k]));clear hR;go_enter func56,ntmps56;go_upto_region 1 with (fail)
      rw[ZH.out];go_wp2_with fail;go_ret;exact⟨congrArg Zf hF.out,by rw[Zw.out,Zx];exact⟨_,rfl⟩⟩
     case pos =>
      have k5kb:decide (many<it)=true:=decide_eq_true k5k;have hF:=Zg (show (.bool false:Value)=R by first|exact hR|(rw[←hR];simp[k1k,k2k,k3k,k4k,k5k]));clear hR;go_enter func56,ntmps56;go_upto_region 1 with (fail)
      rw[ZH.out];go_wp2_with fail;go_ret;exact⟨congrArg Zf hF.out,by rw[Zw.out,Zx];exact⟨_,rfl⟩⟩
    case pos =>
     have k4kb:decide (it≤i)=true:=decide_eq_true k4k;have hF:=Zg (show (.bool false:Value)=R by first|exact hR|(rw[←hR];simp[k1k,k2k,k3k,k4k]));clear hR;go_enter func56,ntmps56;go_upto_region 1 with (fail)
     rw[ZH.out];go_wp2_with fail;go_ret;exact⟨congrArg Zf hF.out,by rw[Zw.out,Zx];exact⟨_,rfl⟩⟩
 case pos =>
  have k1kb:decide (0≤ia)=true:=decide_eq_true k1k;by_cases k6k:(ia==0)=true
  case neg =>
   have k6k:(ia==0)=false:=by simpa using k6k
   have k6kn:(ia !=0)=true:=by rw[bne,k6k];rfl
   have hF:=Zg (show (.bool false:Value)=R by first|exact hR|(rw[←hR];simp[k1k,k6k]));clear hR;go_enter func56,ntmps56;go_upto_region 1 with (fail)
   rw[ZH.out];go_wp2_with fail;go_ret;exact⟨congrArg Zf hF.out,by rw[Zw.out,Zx];exact⟨_,rfl⟩⟩
  case pos =>
   have k6kn:(ia !=0)=false:=by rw[bne,k6k];rfl
   by_cases k7k:(ib==0)=true
   case neg =>
    have k7k:(ib==0)=false:=by simpa using k7k
    have k7kn:(ib !=0)=true:=by rw[bne,k7k];rfl
    have hF:=Zg (show (.bool false:Value)=R by first|exact hR|(rw[←hR];simp[k1k,k6k,k7k]));clear hR;go_enter func56,ntmps56;go_upto_region 1 with (fail)
    rw[ZH.out];go_wp2_with fail;go_ret;exact⟨congrArg Zf hF.out,by rw[Zw.out,Zx];exact⟨_,rfl⟩⟩
   case pos =>
    have k7kn:(ib !=0)=false:=by rw[bne,k7k];rfl
    by_cases k8k:it≤i
    case neg =>
     have k8kb:decide (it≤i)=false:=decide_eq_false k8k;by_cases k9k:many<it
     case neg =>
      have k9kb:decide (many<it)=false:=decide_eq_false k9k;have hF:=Zg (show (.bool ((en:Int)==0):Value)=R by first|exact hR|(rw[←hR];simp[k1k,k6k,k7k,k8k,k9k]));clear hR;go_enter func56,ntmps56;go_upto_region 1 with (fail)
      rw[ZH.out];go_wp2_with fail;go_ret;exact⟨congrArg Zf hF.out,by rw[Zw.out,Zx];exact⟨_,rfl⟩⟩
     case pos =>
      have k9kb:decide (many<it)=true:=decide_eq_true k9k;have hF:=Zg (show (.bool false:Value)=R by first|exact hR|(rw[←hR];simp[k1k,k6k,k7k,k8k,k9k]));clear hR;go_enter func56,ntmps56;go_upto_region 1 with (fail)
      rw[ZH.out];go_wp2_with fail;go_ret;exact⟨congrArg Zf hF.out,by rw[Zw.out,Zx];exact⟨_,rfl⟩⟩
    case pos =>
     have k8kb:decide (it≤i)=true:=decide_eq_true k8k;have hF:=Zg (show (.bool false:Value)=R by first|exact hR|(rw[←hR];simp[k1k,k6k,k7k,k8k]));clear hR;go_enter func56,ntmps56;go_upto_region 1 with (fail)
     rw[ZH.out];go_wp2_with fail;go_ret;exact⟨congrArg Zf hF.out,by rw[Zw.out,Zx];exact⟨_,rfl⟩⟩
theorem HX(q0p q0n q0c q1p q1n q1c q2p q2n q2c q3p q3n q3c q4p q4n q4c q5p q5n q5c q6p q6n q6c q7p q7n q7c q8p q8n q8c q9p q9n q9c q10p q10n q10c q11p q11n q11c act ia ib ep en ec it i many r s0 w)(h0:Kp Zr w 7 #[.agg #[.slice q0p q0n q0c,.slice q1p q1n q1c,.slice q2p q2n q2c,.slice q3p q3n q3c,.slice q4p q4n q4c,.slice q5p q5n q5c,.slice q6p q6n q6c,.slice q7p q7n q7c,.slice q8p q8n q8c,.slice q9p q9n q9c,.slice q10p q10n q10c,.slice q11p q11n q11c],.int .i64 act,.slice ep en ec] (.tuple #[.int .i64 r,.bool s0])) :
  Kp Zr w 56 #[.agg #[.slice q0p q0n q0c,.slice q1p q1n q1c,.slice q2p q2n q2c,.slice q3p q3n q3c,.slice q4p q4n q4c,.slice q5p q5n q5c,.slice q6p q6n q6c,.slice q7p q7n q7c,.slice q8p q8n q8c,.slice q9p q9n q9c,.slice q10p q10n q10c,.slice q11p q11n q11c],.int .i64 act,.agg #[.int .u8 7,.int .i64 ia,.int .i64 ib,.slice ep en ec,.int .i64 it],.int .i64 i,.int .i64 many] (.bool ((ia==0)&&((ib==0)&&(!(decide (it≤i))&&(!(decide (many<it))&&(s0&&(r==1))))))):=by
 intro y0;have h0:=h0.up y0;obtain⟨V,hV⟩:=Zv (plus w y0);rw[hV]at h0 ⊢;clear hV;obtain⟨R,hR⟩:=Zv ((.bool ((ia==0)&&((ib==0)&&(!(decide (it≤i))&&(!(decide (many<it))&&(s0&&(r==1))))))):Value);rw[hR];obtain⟨W,yy,hW,⟨z,hz⟩,cb0,cb1⟩:=ZF V #[.slice q0p q0n q0c,.slice q1p q1n q1c,.slice q2p q2n q2c,.slice q3p q3n q3c,.slice q4p q4n q4c,.slice q5p q5n q5c,.slice q6p q6n q6c,.slice q7p q7n q7c,.slice q8p q8n q8c,.slice q9p q9n q9c,.slice q10p q10n q10c,.slice q11p q11n q11c] #[.int .u8 7,.int .i64 ia,.int .i64 ib,.slice ep en ec,.int .i64 it] 33 99;have c0_0:=cb0 0 _ rfl;have c0_1:=cb0 1 _ rfl;have c0_2:=cb0 2 _ rfl;have c0_3:=cb0 3 _ rfl;have c0_4:=cb0 4 _ rfl;have c0_5:=cb0 5 _ rfl;have c0_6:=cb0 6 _ rfl;have c0_7:=cb0 7 _ rfl;have c0_8:=cb0 8 _ rfl;have c0_9:=cb0 9 _ rfl;have c0_10:=cb0 10 _ rfl;have c0_11:=cb0 11 _ rfl;have c1_0:=cb1 0 _ rfl;have c1_1:=cb1 1 _ rfl;have c1_2:=cb1 2 _ rfl;have c1_3:=cb1 3 _ rfl;have c1_4:=cb1 4 _ rfl;have q0c:=Zg (Zy hz h0);have ZH:=Zg hW;have Zw:=Zg hz;clear hW hz cb0 cb1 h0;by_cases k1k:0≤ia
 case neg =>
  have k1kb:decide (0≤ia)=false:=decide_eq_false k1k;by_cases k2k:(ia==0)=true
  case neg =>
   have k2k:(ia==0)=false:=by simpa using k2k
   have k2kn:(ia !=0)=true:=by rw[bne,k2k];rfl
   have hF:=Zg (show (.bool false:Value)=R by first|exact hR|(rw[←hR];simp[k1k,k2k]));clear hR;go_enter func56,ntmps56;go_upto_region 1 with (fail)
   rw[ZH.out];go_wp2_with fail;go_ret;exact⟨congrArg Zf hF.out,by rw[Zw.out,Zx];exact⟨_,rfl⟩⟩
  case pos =>
   have k2kn:(ia !=0)=false:=by rw[bne,k2k];rfl
   by_cases k3k:(ib==0)=true
   case neg =>
    have k3k:(ib==0)=false:=by simpa using k3k
    have k3kn:(ib !=0)=true:=by rw[bne,k3k];rfl
    have hF:=Zg (show (.bool false:Value)=R by first|exact hR|(rw[←hR];simp[k1k,k2k,k3k]));clear hR;go_enter func56,ntmps56;go_upto_region 1 with (fail)
    rw[ZH.out];go_wp2_with fail;go_ret;exact⟨congrArg Zf hF.out,by rw[Zw.out,Zx];exact⟨_,rfl⟩⟩
   case pos =>
    have k3kn:(ib !=0)=false:=by rw[bne,k3k];rfl
    by_cases k4k:it≤i
    case neg =>
     have k4kb:decide (it≤i)=false:=decide_eq_false k4k;by_cases k5k:many<it
     case neg =>
      have k5kb:decide (many<it)=false:=decide_eq_false k5k;cases s0
      case false =>
       have hF:=Zg (show (.bool false:Value)=R by first|exact hR|(rw[←hR];simp[k1k,k2k,k3k,k4k,k5k]));clear hR;go_enter func56,ntmps56;go_upto_region 1 with (fail)
       rw[ZH.out];go_wp2_with fail;refine (q0c.out _).mono ?_;rintro e9 w9 ⟨rfl,x9,rfl⟩;go_wp2_with fail;go_ret;exact⟨congrArg Zf hF.out,by rw[Zw.out,Zx];exact⟨_,rfl⟩⟩
      case true =>
       have hF:=Zg (show (.bool (r==1):Value)=R by first|exact hR|(rw[←hR];simp[k1k,k2k,k3k,k4k,k5k]));clear hR;go_enter func56,ntmps56;go_upto_region 1 with (fail)
       rw[ZH.out];go_wp2_with fail;refine (q0c.out _).mono ?_;rintro e9 w9 ⟨rfl,x9,rfl⟩;go_wp2_with fail;go_ret;exact⟨congrArg Zf hF.out,by rw[Zw.out,Zx];exact⟨_,rfl⟩⟩
     case pos =>
      have k5kb:decide (many<it)=true:=decide_eq_true k5k;have hF:=Zg (show (.bool false:Value)=R by first|exact hR|(rw[←hR];simp[k1k,k2k,k3k,k4k,k5k]));clear hR;go_enter func56,ntmps56;go_upto_region 1 with (fail)
      rw[ZH.out];go_wp2_with fail;go_ret;exact⟨congrArg Zf hF.out,by rw[Zw.out,Zx];exact⟨_,rfl⟩⟩
    case pos =>
     have k4kb:decide (it≤i)=true:=decide_eq_true k4k;have hF:=Zg (show (.bool false:Value)=R by first|exact hR|(rw[←hR];simp[k1k,k2k,k3k,k4k]));clear hR;go_enter func56,ntmps56;go_upto_region 1 with (fail)
     rw[ZH.out];go_wp2_with fail;go_ret;exact⟨congrArg Zf hF.out,by rw[Zw.out,Zx];exact⟨_,rfl⟩⟩
 case pos =>
  have k1kb:decide (0≤ia)=true:=decide_eq_true k1k;by_cases k6k:(ia==0)=true
  case neg =>
   have k6k:(ia==0)=false:=by simpa using k6k
   have k6kn:(ia !=0)=true:=by rw[bne,k6k];rfl
   have hF:=Zg (show (.bool false:Value)=R by first|exact hR|(rw[←hR];simp[k1k,k6k]));clear hR;go_enter func56,ntmps56;go_upto_region 1 with (fail)
   rw[ZH.out];go_wp2_with fail;go_ret;exact⟨congrArg Zf hF.out,by rw[Zw.out,Zx];exact⟨_,rfl⟩⟩
  case pos =>
   have k6kn:(ia !=0)=false:=by rw[bne,k6k];rfl
   by_cases k7k:(ib==0)=true
   case neg =>
    have k7k:(ib==0)=false:=by simpa using k7k
    have k7kn:(ib !=0)=true:=by rw[bne,k7k];rfl
    have hF:=Zg (show (.bool false:Value)=R by first|exact hR|(rw[←hR];simp[k1k,k6k,k7k]));clear hR;go_enter func56,ntmps56;go_upto_region 1 with (fail)
    rw[ZH.out];go_wp2_with fail;go_ret;exact⟨congrArg Zf hF.out,by rw[Zw.out,Zx];exact⟨_,rfl⟩⟩
   case pos =>
    have k7kn:(ib !=0)=false:=by rw[bne,k7k];rfl
    by_cases k8k:it≤i
    case neg =>
     have k8kb:decide (it≤i)=false:=decide_eq_false k8k;by_cases k9k:many<it
     case neg =>
      have k9kb:decide (many<it)=false:=decide_eq_false k9k;cases s0
      case false =>
       have hF:=Zg (show (.bool false:Value)=R by first|exact hR|(rw[←hR];simp[k1k,k6k,k7k,k8k,k9k]));clear hR;go_enter func56,ntmps56;go_upto_region 1 with (fail)
       rw[ZH.out];go_wp2_with fail;refine (q0c.out _).mono ?_;rintro e9 w9 ⟨rfl,x9,rfl⟩;go_wp2_with fail;go_ret;exact⟨congrArg Zf hF.out,by rw[Zw.out,Zx];exact⟨_,rfl⟩⟩
      case true =>
       have hF:=Zg (show (.bool (r==1):Value)=R by first|exact hR|(rw[←hR];simp[k1k,k6k,k7k,k8k,k9k]));clear hR;go_enter func56,ntmps56;go_upto_region 1 with (fail)
       rw[ZH.out];go_wp2_with fail;refine (q0c.out _).mono ?_;rintro e9 w9 ⟨rfl,x9,rfl⟩;go_wp2_with fail;go_ret;exact⟨congrArg Zf hF.out,by rw[Zw.out,Zx];exact⟨_,rfl⟩⟩
     case pos =>
      have k9kb:decide (many<it)=true:=decide_eq_true k9k;have hF:=Zg (show (.bool false:Value)=R by first|exact hR|(rw[←hR];simp[k1k,k6k,k7k,k8k,k9k]));clear hR;go_enter func56,ntmps56;go_upto_region 1 with (fail)
      rw[ZH.out];go_wp2_with fail;go_ret;exact⟨congrArg Zf hF.out,by rw[Zw.out,Zx];exact⟨_,rfl⟩⟩
    case pos =>
     have k8kb:decide (it≤i)=true:=decide_eq_true k8k;have hF:=Zg (show (.bool false:Value)=R by first|exact hR|(rw[←hR];simp[k1k,k6k,k7k,k8k]));clear hR;go_enter func56,ntmps56;go_upto_region 1 with (fail)
     rw[ZH.out];go_wp2_with fail;go_ret;exact⟨congrArg Zf hF.out,by rw[Zw.out,Zx];exact⟨_,rfl⟩⟩
end Go.Proofs.YtheaknidbcbneaaGreat

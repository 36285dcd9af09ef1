/-
  WHAT IS PROVED HERE: a part of the proof (made narrower and merged by program; the parts: Loe Loh).
-/
import Derived.Shelf.Abstract
import Derived.Test.YtheaknidbcbneaaGreatM4
import Derived.Test.YtheaknidbcbneaaGreatM3
import Derived.Test.YtheaknidbcbneaaGreatM5
set_option maxRecDepth 100000
set_option maxHeartbeats 8000000
set_option linter.all false
namespace Go.Proofs.YtheaknidbcbneaaGreat
open Go.RowKit Go.Proofs.Tryz
open Ending renaming returned→Zf
open Lib renaming hid→Zg
open Go.Proofs.Tryz renaming prog→Zr
open Value renaming bool→Zs,int→Zt
open Go.RowKit
theorem R4(a w) :
  Kp Zr w 70 #[.int .i64 a] (.bool (decide (1≤a)&&decide (a≤128))):=by
 intro y0;obtain⟨V,hV⟩:=Zv (plus w y0);rw[hV]at ⊢;clear hV;obtain⟨R,hR⟩:=Zv (decide (1≤a)&&decide (a≤128));rw[hR];by_cases q1:1≤a
 case neg =>
  have hF:=Zg (show (false)=R by first|exact hR|(rw[←hR];simp[q1]));clear hR;go_enter func70,ntmps70;go_wp2_with fail;go_ret;exact⟨congrArg (fun z=>Zf (Zs z)) hF.out,YD _⟩
 case pos =>
  by_cases q2:a≤128
  case neg =>
   have hF:=Zg (show (false)=R by first|exact hR|(rw[←hR];simp[q1,q2]));clear hR;go_enter func70,ntmps70;go_wp2_with fail;go_ret;exact⟨congrArg (fun z=>Zf (Zs z)) hF.out,YD _⟩
  case pos =>
   have hF:=Zg (show (true)=R by first|exact hR|(rw[←hR];simp[q1,q2]));clear hR;go_enter func70,ntmps70;go_wp2_with fail;go_ret;exact⟨congrArg (fun z=>Zf (Zs z)) hF.out,YD _⟩
theorem PL(n a s0 w)(h0:Kp Zr w 70 #[.int .i64 a] (.bool s0)) :
  Kp Zr w 45 #[.int .i64 n,.int .i64 a] (.bool (s0)):=by
 intro y0;have h0:=h0.up y0;obtain⟨V,hV⟩:=Zv (plus w y0);rw[hV]at h0 ⊢;clear hV;obtain⟨R,hR⟩:=Zv (s0);rw[hR];cases s0
 case false =>
  have hF:=Zg (show (false)=R by first|exact hR|(rw[←hR];simp));clear hR;have h0:=Zg h0;go_enter func45,ntmps45;go_wp2_with fail;have q0c:=Zg h0.out.pure;refine (YN h0.out).mono ?_;rintro r w' ⟨rfl,x1,rfl⟩;go_wp2_with fail;go_ret;exact⟨congrArg (fun z=>Zf (Zs z)) hF.out,_,rfl⟩
 case true =>
  have hF:=Zg (show (true)=R by first|exact hR|(rw[←hR];simp));clear hR;have h0:=Zg h0;go_enter func45,ntmps45;go_wp2_with fail;have q0c:=Zg h0.out.pure;refine (YN h0.out).mono ?_;rintro r w' ⟨rfl,x1,rfl⟩;go_wp2_with fail;go_ret;exact⟨congrArg (fun z=>Zf (Zs z)) hF.out,_,rfl⟩
theorem R0(n p l cap w) :
  Kp Zr w 120 #[.int .i64 n,.slice p l cap] (.bool (decide (0≤n)&&decide (n<(l:Int)))):=by
 intro y0;obtain⟨V,hV⟩:=Zv (plus w y0);rw[hV]at ⊢;clear hV;obtain⟨R,hR⟩:=Zv (decide (0≤n)&&decide (n<(l:Int)));rw[hR];by_cases q1:0≤n
 case neg =>
  have hF:=Zg (show (false)=R by first|exact hR|(rw[←hR];simp[q1]));clear hR;go_enter func120,ntmps120;go_wp2_with fail;go_ret;exact⟨congrArg (fun z=>Zf (Zs z)) hF.out,YD _⟩
 case pos =>
  by_cases q2:n<(l:Int)
  case neg =>
   have hF:=Zg (show (false)=R by first|exact hR|(rw[←hR];simp[q1,q2]));clear hR;go_enter func120,ntmps120;go_wp2_with fail;go_ret;exact⟨congrArg (fun z=>Zf (Zs z)) hF.out,YD _⟩
  case pos =>
   have hF:=Zg (show (true)=R by first|exact hR|(rw[←hR];simp[q1,q2]));clear hR;go_enter func120,ntmps120;go_wp2_with fail;go_ret;exact⟨congrArg (fun z=>Zf (Zs z)) hF.out,YD _⟩
theorem SH(n p l cap w) :
  Kp Zr w 74 #[.int .i64 n,.slice p l cap] (.bool (decide (0≤n)&&decide (n<(l:Int)))):=by
 intro y0;obtain⟨V,hV⟩:=Zv (plus w y0);rw[hV]at ⊢;clear hV;obtain⟨R,hR⟩:=Zv (decide (0≤n)&&decide (n<(l:Int)));rw[hR];by_cases q1:0≤n
 case neg =>
  have hF:=Zg (show (false)=R by first|exact hR|(rw[←hR];simp[q1]));clear hR;go_enter func74,ntmps74;go_wp2_with fail;go_ret;exact⟨congrArg (fun z=>Zf (Zs z)) hF.out,YD _⟩
 case pos =>
  by_cases q2:n<(l:Int)
  case neg =>
   have hF:=Zg (show (false)=R by first|exact hR|(rw[←hR];simp[q1,q2]));clear hR;go_enter func74,ntmps74;go_wp2_with fail;go_ret;exact⟨congrArg (fun z=>Zf (Zs z)) hF.out,YD _⟩
  case pos =>
   have hF:=Zg (show (true)=R by first|exact hR|(rw[←hR];simp[q1,q2]));clear hR;go_enter func74,ntmps74;go_wp2_with fail;go_ret;exact⟨congrArg (fun z=>Zf (Zs z)) hF.out,YD _⟩
theorem RZ(n p l cap w) :
  Kp Zr w 30 #[.int .i64 n,.slice p l cap] (.bool (decide (0≤n)&&decide (n<(l:Int)))):=by
 intro y0;obtain⟨V,hV⟩:=Zv (plus w y0);rw[hV]at ⊢;clear hV;obtain⟨R,hR⟩:=Zv (decide (0≤n)&&decide (n<(l:Int)));rw[hR];by_cases q1:0≤n
 case neg =>
  have hF:=Zg (show (false)=R by first|exact hR|(rw[←hR];simp[q1]));clear hR;go_enter func30,ntmps30;go_wp2_with fail;go_ret;exact⟨congrArg (fun z=>Zf (Zs z)) hF.out,YD _⟩
 case pos =>
  by_cases q2:n<(l:Int)
  case neg =>
   have hF:=Zg (show (false)=R by first|exact hR|(rw[←hR];simp[q1,q2]));clear hR;go_enter func30,ntmps30;go_wp2_with fail;go_ret;exact⟨congrArg (fun z=>Zf (Zs z)) hF.out,YD _⟩
  case pos =>
   have hF:=Zg (show (true)=R by first|exact hR|(rw[←hR];simp[q1,q2]));clear hR;go_enter func30,ntmps30;go_wp2_with fail;go_ret;exact⟨congrArg (fun z=>Zf (Zs z)) hF.out,YD _⟩
theorem K1(n p l cap w) :
  Kp Zr w 122 #[.int .i64 n,.slice p l cap] (.bool (decide (0≤n)&&decide (n<(l:Int)))):=by
 intro y0;obtain⟨V,hV⟩:=Zv (plus w y0);rw[hV]at ⊢;clear hV;obtain⟨R,hR⟩:=Zv (decide (0≤n)&&decide (n<(l:Int)));rw[hR];by_cases q1:0≤n
 case neg =>
  have hF:=Zg (show (false)=R by first|exact hR|(rw[←hR];simp[q1]));clear hR;go_enter func122,ntmps122;go_wp2_with fail;go_ret;exact⟨congrArg (fun z=>Zf (Zs z)) hF.out,YD _⟩
 case pos =>
  by_cases q2:n<(l:Int)
  case neg =>
   have hF:=Zg (show (false)=R by first|exact hR|(rw[←hR];simp[q1,q2]));clear hR;go_enter func122,ntmps122;go_wp2_with fail;go_ret;exact⟨congrArg (fun z=>Zf (Zs z)) hF.out,YD _⟩
  case pos =>
   have hF:=Zg (show (true)=R by first|exact hR|(rw[←hR];simp[q1,q2]));clear hR;go_enter func122,ntmps122;go_wp2_with fail;go_ret;exact⟨congrArg (fun z=>Zf (Zs z)) hF.out,YD _⟩
theorem K2(n p l cap w) :
  Kp Zr w 128 #[.int .i64 n,.slice p l cap] (.bool (decide (0≤n)&&decide (n<(l:Int)))):=by
 intro y0;obtain⟨V,hV⟩:=Zv (plus w y0);rw[hV]at ⊢;clear hV;obtain⟨R,hR⟩:=Zv (decide (0≤n)&&decide (n<(l:Int)));rw[hR];by_cases q1:0≤n
 case neg =>
  have hF:=Zg (show (false)=R by first|exact hR|(rw[←hR];simp[q1]));clear hR;go_enter func128,ntmps128;go_wp2_with fail;go_ret;exact⟨congrArg (fun z=>Zf (Zs z)) hF.out,YD _⟩
 case pos =>
  by_cases q2:n<(l:Int)
  case neg =>
   have hF:=Zg (show (false)=R by first|exact hR|(rw[←hR];simp[q1,q2]));clear hR;go_enter func128,ntmps128;go_wp2_with fail;go_ret;exact⟨congrArg (fun z=>Zf (Zs z)) hF.out,YD _⟩
  case pos =>
   have hF:=Zg (show (true)=R by first|exact hR|(rw[←hR];simp[q1,q2]));clear hR;go_enter func128,ntmps128;go_wp2_with fail;go_ret;exact⟨congrArg (fun z=>Zf (Zs z)) hF.out,YD _⟩
theorem KP(ft fa fb fv op nw na nb vh vl s0 w)(h0:Kp Zr w 70 #[.int .i64 nw] (.bool s0)) :
  Kp Zr w 39 #[.agg #[.int .i64 ft,.bool fa,.bool fb,.bool fv],.agg #[.int .u8 op,.int .i64 nw,.int .i64 na,.int .i64 nb,.int .u64 vh,.int .u64 vl]] (.bool (s0&&((fa||na==0)&&((fb||nb==0)&&(fv||(vh==0&&vl==0)))))):=by
 intro y0;have h0:=h0.up y0;obtain⟨V,hV⟩:=Zv (plus w y0);rw[hV]at h0 ⊢;clear hV;obtain⟨R,hR⟩:=Zv (s0&&((fa||na==0)&&((fb||nb==0)&&(fv||(vh==0&&vl==0)))));rw[hR];cases s0
 case false =>
  have hF:=Zg (show (false)=R by first|exact hR|(rw[←hR];simp));clear hR;have h0:=Zg h0;go_enter func39,ntmps39;go_wp2_with fail;obtain⟨W,yy,hW,⟨z,hz⟩,cb0,cb1⟩:=ZF V _ _ 111 79;rw[hW];have c0_0:=cb0 0 _ rfl;have c0_1:=cb0 1 _ rfl;have c0_2:=cb0 2 _ rfl;have c0_3:=cb0 3 _ rfl;have c1_0:=cb1 0 _ rfl;have c1_1:=cb1 1 _ rfl;have c1_2:=cb1 2 _ rfl;have c1_3:=cb1 3 _ rfl;have c1_4:=cb1 4 _ rfl;have c1_5:=cb1 5 _ rfl;have q0c:=Zg (Zy hz h0.out);have Zw:=Zg hz;clear hW hz cb0 cb1;refine (q0c.out _).mono ?_;rintro r w' ⟨rfl,x1,rfl⟩;go_wp2_with fail;go_ret;exact⟨congrArg (fun z=>Zf (Zs z)) hF.out,by rw[Zw.out,Zx];exact⟨_,rfl⟩⟩
 case true =>
  by_cases q1:(fa)=true
  case neg =>
   have q1:(fa)=false:=by simpa using q1
   by_cases q2:(na==0)=true
   case neg =>
    have q2:(na==0)=false:=by simpa using q2
    have hF:=Zg (show (false)=R by first|exact hR|(rw[←hR];simp[q1,q2]));clear hR;have h0:=Zg h0;go_enter func39,ntmps39;go_wp2_with fail;obtain⟨W,yy,hW,⟨z,hz⟩,cb0,cb1⟩:=ZF V _ _ 111 79;rw[hW];have c0_0:=cb0 0 _ rfl;have c0_1:=cb0 1 _ rfl;have c0_2:=cb0 2 _ rfl;have c0_3:=cb0 3 _ rfl;have c1_0:=cb1 0 _ rfl;have c1_1:=cb1 1 _ rfl;have c1_2:=cb1 2 _ rfl;have c1_3:=cb1 3 _ rfl;have c1_4:=cb1 4 _ rfl;have c1_5:=cb1 5 _ rfl;have q0c:=Zg (Zy hz h0.out);have Zw:=Zg hz;clear hW hz cb0 cb1;refine (q0c.out _).mono ?_;rintro r w' ⟨rfl,x1,rfl⟩;go_wp2_with fail;go_ret;exact⟨congrArg (fun z=>Zf (Zs z)) hF.out,by rw[Zw.out,Zx];exact⟨_,rfl⟩⟩
   case pos =>
    by_cases q3:(fb)=true
    case neg =>
     have q3:(fb)=false:=by simpa using q3
     by_cases q4:(nb==0)=true
     case neg =>
      have q4:(nb==0)=false:=by simpa using q4
      have hF:=Zg (show (false)=R by first|exact hR|(rw[←hR];simp[q1,q2,q3,q4]));clear hR;have h0:=Zg h0;go_enter func39,ntmps39;go_wp2_with fail;obtain⟨W,yy,hW,⟨z,hz⟩,cb0,cb1⟩:=ZF V _ _ 111 79;rw[hW];have c0_0:=cb0 0 _ rfl;have c0_1:=cb0 1 _ rfl;have c0_2:=cb0 2 _ rfl;have c0_3:=cb0 3 _ rfl;have c1_0:=cb1 0 _ rfl;have c1_1:=cb1 1 _ rfl;have c1_2:=cb1 2 _ rfl;have c1_3:=cb1 3 _ rfl;have c1_4:=cb1 4 _ rfl;have c1_5:=cb1 5 _ rfl;have q0c:=Zg (Zy hz h0.out);have Zw:=Zg hz;clear hW hz cb0 cb1;refine (q0c.out _).mono ?_;rintro r w' ⟨rfl,x1,rfl⟩;go_wp2_with fail;go_ret;exact⟨congrArg (fun z=>Zf (Zs z)) hF.out,by rw[Zw.out,Zx];exact⟨_,rfl⟩⟩
     case pos =>
      by_cases q5:(fv)=true
      case neg =>
       have q5:(fv)=false:=by simpa using q5
       by_cases q6:(vh==0)=true
       case neg =>
        have q6:(vh==0)=false:=by simpa using q6
        have hF:=Zg (show (false)=R by first|exact hR|(rw[←hR];simp[q1,q2,q3,q4,q5,q6]));clear hR;have h0:=Zg h0;go_enter func39,ntmps39;go_wp2_with fail;obtain⟨W,yy,hW,⟨z,hz⟩,cb0,cb1⟩:=ZF V _ _ 111 79;rw[hW];have c0_0:=cb0 0 _ rfl;have c0_1:=cb0 1 _ rfl;have c0_2:=cb0 2 _ rfl;have c0_3:=cb0 3 _ rfl;have c1_0:=cb1 0 _ rfl;have c1_1:=cb1 1 _ rfl;have c1_2:=cb1 2 _ rfl;have c1_3:=cb1 3 _ rfl;have c1_4:=cb1 4 _ rfl;have c1_5:=cb1 5 _ rfl;have q0c:=Zg (Zy hz h0.out);have Zw:=Zg hz;clear hW hz cb0 cb1;refine (q0c.out _).mono ?_;rintro r w' ⟨rfl,x1,rfl⟩;go_wp2_with fail;go_ret;exact⟨congrArg (fun z=>Zf (Zs z)) hF.out,by rw[Zw.out,Zx];exact⟨_,rfl⟩⟩
       case pos =>
        by_cases q7:(vl==0)=true
        case neg =>
         have q7:(vl==0)=false:=by simpa using q7
         have hF:=Zg (show (false)=R by first|exact hR|(rw[←hR];simp[q1,q2,q3,q4,q5,q6,q7]));clear hR;have h0:=Zg h0;go_enter func39,ntmps39;go_wp2_with fail;obtain⟨W,yy,hW,⟨z,hz⟩,cb0,cb1⟩:=ZF V _ _ 111 79;rw[hW];have c0_0:=cb0 0 _ rfl;have c0_1:=cb0 1 _ rfl;have c0_2:=cb0 2 _ rfl;have c0_3:=cb0 3 _ rfl;have c1_0:=cb1 0 _ rfl;have c1_1:=cb1 1 _ rfl;have c1_2:=cb1 2 _ rfl;have c1_3:=cb1 3 _ rfl;have c1_4:=cb1 4 _ rfl;have c1_5:=cb1 5 _ rfl;have q0c:=Zg (Zy hz h0.out);have Zw:=Zg hz;clear hW hz cb0 cb1;refine (q0c.out _).mono ?_;rintro r w' ⟨rfl,x1,rfl⟩;go_wp2_with fail;go_ret;exact⟨congrArg (fun z=>Zf (Zs z)) hF.out,by rw[Zw.out,Zx];exact⟨_,rfl⟩⟩
        case pos =>
         have hF:=Zg (show (true)=R by first|exact hR|(rw[←hR];simp[q1,q2,q3,q4,q5,q6,q7]));clear hR;have h0:=Zg h0;go_enter func39,ntmps39;go_wp2_with fail;obtain⟨W,yy,hW,⟨z,hz⟩,cb0,cb1⟩:=ZF V _ _ 111 79;rw[hW];have c0_0:=cb0 0 _ rfl;have c0_1:=cb0 1 _ rfl;have c0_2:=cb0 2 _ rfl;have c0_3:=cb0 3 _ rfl;have c1_0:=cb1 0 _ rfl;have c1_1:=cb1 1 _ rfl;have c1_2:=cb1 2 _ rfl;have c1_3:=cb1 3 _ rfl;have c1_4:=cb1 4 _ rfl;have c1_5:=cb1 5 _ rfl;have q0c:=Zg (Zy hz h0.out);have Zw:=Zg hz;clear hW hz cb0 cb1;refine (q0c.out _).mono ?_;rintro r w' ⟨rfl,x1,rfl⟩;go_wp2_with fail;go_ret;exact⟨congrArg (fun z=>Zf (Zs z)) hF.out,by rw[Zw.out,Zx];exact⟨_,rfl⟩⟩
      case pos =>
       have hF:=Zg (show (true)=R by first|exact hR|(rw[←hR];simp[q1,q2,q3,q4,q5]));clear hR;have h0:=Zg h0;go_enter func39,ntmps39;go_wp2_with fail;obtain⟨W,yy,hW,⟨z,hz⟩,cb0,cb1⟩:=ZF V _ _ 111 79;rw[hW];have c0_0:=cb0 0 _ rfl;have c0_1:=cb0 1 _ rfl;have c0_2:=cb0 2 _ rfl;have c0_3:=cb0 3 _ rfl;have c1_0:=cb1 0 _ rfl;have c1_1:=cb1 1 _ rfl;have c1_2:=cb1 2 _ rfl;have c1_3:=cb1 3 _ rfl;have c1_4:=cb1 4 _ rfl;have c1_5:=cb1 5 _ rfl;have q0c:=Zg (Zy hz h0.out);have Zw:=Zg hz;clear hW hz cb0 cb1;refine (q0c.out _).mono ?_;rintro r w' ⟨rfl,x1,rfl⟩;go_wp2_with fail;go_ret;exact⟨congrArg (fun z=>Zf (Zs z)) hF.out,by rw[Zw.out,Zx];exact⟨_,rfl⟩⟩
    case pos =>
     by_cases q8:(fv)=true
     case neg =>
      have q8:(fv)=false:=by simpa using q8
      by_cases q9:(vh==0)=true
      case neg =>
       have q9:(vh==0)=false:=by simpa using q9
       have hF:=Zg (show (false)=R by first|exact hR|(rw[←hR];simp[q1,q2,q3,q8,q9]));clear hR;have h0:=Zg h0;go_enter func39,ntmps39;go_wp2_with fail;obtain⟨W,yy,hW,⟨z,hz⟩,cb0,cb1⟩:=ZF V _ _ 111 79;rw[hW];have c0_0:=cb0 0 _ rfl;have c0_1:=cb0 1 _ rfl;have c0_2:=cb0 2 _ rfl;have c0_3:=cb0 3 _ rfl;have c1_0:=cb1 0 _ rfl;have c1_1:=cb1 1 _ rfl;have c1_2:=cb1 2 _ rfl;have c1_3:=cb1 3 _ rfl;have c1_4:=cb1 4 _ rfl;have c1_5:=cb1 5 _ rfl;have q0c:=Zg (Zy hz h0.out);have Zw:=Zg hz;clear hW hz cb0 cb1;refine (q0c.out _).mono ?_;rintro r w' ⟨rfl,x1,rfl⟩;go_wp2_with fail;go_ret;exact⟨congrArg (fun z=>Zf (Zs z)) hF.out,by rw[Zw.out,Zx];exact⟨_,rfl⟩⟩
      case pos =>
       by_cases q10:(vl==0)=true
       case neg =>
        have q10:(vl==0)=false:=by simpa using q10
        have hF:=Zg (show (false)=R by first|exact hR|(rw[←hR];simp[q1,q2,q3,q8,q9,q10]));clear hR;have h0:=Zg h0;go_enter func39,ntmps39;go_wp2_with fail;obtain⟨W,yy,hW,⟨z,hz⟩,cb0,cb1⟩:=ZF V _ _ 111 79;rw[hW];have c0_0:=cb0 0 _ rfl;have c0_1:=cb0 1 _ rfl;have c0_2:=cb0 2 _ rfl;have c0_3:=cb0 3 _ rfl;have c1_0:=cb1 0 _ rfl;have c1_1:=cb1 1 _ rfl;have c1_2:=cb1 2 _ rfl;have c1_3:=cb1 3 _ rfl;have c1_4:=cb1 4 _ rfl;have c1_5:=cb1 5 _ rfl;have q0c:=Zg (Zy hz h0.out);have Zw:=Zg hz;clear hW hz cb0 cb1;refine (q0c.out _).mono ?_;rintro r w' ⟨rfl,x1,rfl⟩;go_wp2_with fail;go_ret;exact⟨congrArg (fun z=>Zf (Zs z)) hF.out,by rw[Zw.out,Zx];exact⟨_,rfl⟩⟩
       case pos =>
        have hF:=Zg (show (true)=R by first|exact hR|(rw[←hR];simp[q1,q2,q3,q8,q9,q10]));clear hR;have h0:=Zg h0;go_enter func39,ntmps39;go_wp2_with fail;obtain⟨W,yy,hW,⟨z,hz⟩,cb0,cb1⟩:=ZF V _ _ 111 79;rw[hW];have c0_0:=cb0 0 _ rfl;have c0_1:=cb0 1 _ rfl;have c0_2:=cb0 2 _ rfl;have c0_3:=cb0 3 _ rfl;have c1_0:=cb1 0 _ rfl;have c1_1:=cb1 1 _ rfl;have c1_2:=cb1 2 _ rfl;have c1_3:=cb1 3 _ rfl;have c1_4:=cb1 4 _ rfl;have c1_5:=cb1 5 _ rfl;have q0c:=Zg (Zy hz h0.out);have Zw:=Zg hz;clear hW hz cb0 cb1;refine (q0c.out _).mono ?_;rintro r w' ⟨rfl,x1,rfl⟩;go_wp2_with fail;go_ret;exact⟨congrArg (fun z=>Zf (Zs z)) hF.out,by rw[Zw.out,Zx];exact⟨_,rfl⟩⟩
     case pos =>
      have hF:=Zg (show (true)=R by first|exact hR|(rw[←hR];simp[q1,q2,q3,q8]));clear hR;have h0:=Zg h0;go_enter func39,ntmps39;go_wp2_with fail;obtain⟨W,yy,hW,⟨z,hz⟩,cb0,cb1⟩:=ZF V _ _ 111 79;rw[hW];have c0_0:=cb0 0 _ rfl;have c0_1:=cb0 1 _ rfl;have c0_2:=cb0 2 _ rfl;have c0_3:=cb0 3 _ rfl;have c1_0:=cb1 0 _ rfl;have c1_1:=cb1 1 _ rfl;have c1_2:=cb1 2 _ rfl;have c1_3:=cb1 3 _ rfl;have c1_4:=cb1 4 _ rfl;have c1_5:=cb1 5 _ rfl;have q0c:=Zg (Zy hz h0.out);have Zw:=Zg hz;clear hW hz cb0 cb1;refine (q0c.out _).mono ?_;rintro r w' ⟨rfl,x1,rfl⟩;go_wp2_with fail;go_ret;exact⟨congrArg (fun z=>Zf (Zs z)) hF.out,by rw[Zw.out,Zx];exact⟨_,rfl⟩⟩
  case pos =>
   by_cases q11:(fb)=true
   case neg =>
    have q11:(fb)=false:=by simpa using q11
    by_cases q12:(nb==0)=true
    case neg =>
     have q12:(nb==0)=false:=by simpa using q12
     have hF:=Zg (show (false)=R by first|exact hR|(rw[←hR];simp[q1,q11,q12]));clear hR;have h0:=Zg h0;go_enter func39,ntmps39;go_wp2_with fail;obtain⟨W,yy,hW,⟨z,hz⟩,cb0,cb1⟩:=ZF V _ _ 111 79;rw[hW];have c0_0:=cb0 0 _ rfl;have c0_1:=cb0 1 _ rfl;have c0_2:=cb0 2 _ rfl;have c0_3:=cb0 3 _ rfl;have c1_0:=cb1 0 _ rfl;have c1_1:=cb1 1 _ rfl;have c1_2:=cb1 2 _ rfl;have c1_3:=cb1 3 _ rfl;have c1_4:=cb1 4 _ rfl;have c1_5:=cb1 5 _ rfl;have q0c:=Zg (Zy hz h0.out);have Zw:=Zg hz;clear hW hz cb0 cb1;refine (q0c.out _).mono ?_;rintro r w' ⟨rfl,x1,rfl⟩;go_wp2_with fail;go_ret;exact⟨congrArg (fun z=>Zf (Zs z)) hF.out,by rw[Zw.out,Zx];exact⟨_,rfl⟩⟩
    case pos =>
     by_cases q13:(fv)=true
     case neg =>
      have q13:(fv)=false:=by simpa using q13
      by_cases q14:(vh==0)=true
      case neg =>
       have q14:(vh==0)=false:=by simpa using q14
       have hF:=Zg (show (false)=R by first|exact hR|(rw[←hR];simp[q1,q11,q12,q13,q14]));clear hR;have h0:=Zg h0;go_enter func39,ntmps39;go_wp2_with fail;obtain⟨W,yy,hW,⟨z,hz⟩,cb0,cb1⟩:=ZF V _ _ 111 79;rw[hW];have c0_0:=cb0 0 _ rfl;have c0_1:=cb0 1 _ rfl;have c0_2:=cb0 2 _ rfl;have c0_3:=cb0 3 _ rfl;have c1_0:=cb1 0 _ rfl;have c1_1:=cb1 1 _ rfl;have c1_2:=cb1 2 _ rfl;have c1_3:=cb1 3 _ rfl;have c1_4:=cb1 4 _ rfl;have c1_5:=cb1 5 _ rfl;have q0c:=Zg (Zy hz h0.out);have Zw:=Zg hz;clear hW hz cb0 cb1;refine (q0c.out _).mono ?_;rintro r w' ⟨rfl,x1,rfl⟩;go_wp2_with fail;go_ret;exact⟨congrArg (fun z=>Zf (Zs z)) hF.out,by rw[Zw.out,Zx];exact⟨_,rfl⟩⟩
      case pos =>
       by_cases q15:(vl==0)=true
       case neg =>
        have q15:(vl==0)=false:=by simpa using q15
        have hF:=Zg (show (false)=R by first|exact hR|(rw[←hR];simp[q1,q11,q12,q13,q14,q15]));clear hR;have h0:=Zg h0;go_enter func39,ntmps39;go_wp2_with fail;obtain⟨W,yy,hW,⟨z,hz⟩,cb0,cb1⟩:=ZF V _ _ 111 79;rw[hW];have c0_0:=cb0 0 _ rfl;have c0_1:=cb0 1 _ rfl;have c0_2:=cb0 2 _ rfl;have c0_3:=cb0 3 _ rfl;have c1_0:=cb1 0 _ rfl;have c1_1:=cb1 1 _ rfl;have c1_2:=cb1 2 _ rfl;have c1_3:=cb1 3 _ rfl;have c1_4:=cb1 4 _ rfl;have c1_5:=cb1 5 _ rfl;have q0c:=Zg (Zy hz h0.out);have Zw:=Zg hz;clear hW hz cb0 cb1;refine (q0c.out _).mono ?_;rintro r w' ⟨rfl,x1,rfl⟩;go_wp2_with fail;go_ret;exact⟨congrArg (fun z=>Zf (Zs z)) hF.out,by rw[Zw.out,Zx];exact⟨_,rfl⟩⟩
       case pos =>
        have hF:=Zg (show (true)=R by first|exact hR|(rw[←hR];simp[q1,q11,q12,q13,q14,q15]));clear hR;have h0:=Zg h0;go_enter func39,ntmps39;go_wp2_with fail;obtain⟨W,yy,hW,⟨z,hz⟩,cb0,cb1⟩:=ZF V _ _ 111 79;rw[hW];have c0_0:=cb0 0 _ rfl;have c0_1:=cb0 1 _ rfl;have c0_2:=cb0 2 _ rfl;have c0_3:=cb0 3 _ rfl;have c1_0:=cb1 0 _ rfl;have c1_1:=cb1 1 _ rfl;have c1_2:=cb1 2 _ rfl;have c1_3:=cb1 3 _ rfl;have c1_4:=cb1 4 _ rfl;have c1_5:=cb1 5 _ rfl;have q0c:=Zg (Zy hz h0.out);have Zw:=Zg hz;clear hW hz cb0 cb1;refine (q0c.out _).mono ?_;rintro r w' ⟨rfl,x1,rfl⟩;go_wp2_with fail;go_ret;exact⟨congrArg (fun z=>Zf (Zs z)) hF.out,by rw[Zw.out,Zx];exact⟨_,rfl⟩⟩
     case pos =>
      have hF:=Zg (show (true)=R by first|exact hR|(rw[←hR];simp[q1,q11,q12,q13]));clear hR;have h0:=Zg h0;go_enter func39,ntmps39;go_wp2_with fail;obtain⟨W,yy,hW,⟨z,hz⟩,cb0,cb1⟩:=ZF V _ _ 111 79;rw[hW];have c0_0:=cb0 0 _ rfl;have c0_1:=cb0 1 _ rfl;have c0_2:=cb0 2 _ rfl;have c0_3:=cb0 3 _ rfl;have c1_0:=cb1 0 _ rfl;have c1_1:=cb1 1 _ rfl;have c1_2:=cb1 2 _ rfl;have c1_3:=cb1 3 _ rfl;have c1_4:=cb1 4 _ rfl;have c1_5:=cb1 5 _ rfl;have q0c:=Zg (Zy hz h0.out);have Zw:=Zg hz;clear hW hz cb0 cb1;refine (q0c.out _).mono ?_;rintro r w' ⟨rfl,x1,rfl⟩;go_wp2_with fail;go_ret;exact⟨congrArg (fun z=>Zf (Zs z)) hF.out,by rw[Zw.out,Zx];exact⟨_,rfl⟩⟩
   case pos =>
    by_cases q16:(fv)=true
    case neg =>
     have q16:(fv)=false:=by simpa using q16
     by_cases q17:(vh==0)=true
     case neg =>
      have q17:(vh==0)=false:=by simpa using q17
      have hF:=Zg (show (false)=R by first|exact hR|(rw[←hR];simp[q1,q11,q16,q17]));clear hR;have h0:=Zg h0;go_enter func39,ntmps39;go_wp2_with fail;obtain⟨W,yy,hW,⟨z,hz⟩,cb0,cb1⟩:=ZF V _ _ 111 79;rw[hW];have c0_0:=cb0 0 _ rfl;have c0_1:=cb0 1 _ rfl;have c0_2:=cb0 2 _ rfl;have c0_3:=cb0 3 _ rfl;have c1_0:=cb1 0 _ rfl;have c1_1:=cb1 1 _ rfl;have c1_2:=cb1 2 _ rfl;have c1_3:=cb1 3 _ rfl;have c1_4:=cb1 4 _ rfl;have c1_5:=cb1 5 _ rfl;have q0c:=Zg (Zy hz h0.out);have Zw:=Zg hz;clear hW hz cb0 cb1;refine (q0c.out _).mono ?_;rintro r w' ⟨rfl,x1,rfl⟩;go_wp2_with fail;go_ret;exact⟨congrArg (fun z=>Zf (Zs z)) hF.out,by rw[Zw.out,Zx];exact⟨_,rfl⟩⟩
     case pos =>
      by_cases q18:(vl==0)=true
      case neg =>
       have q18:(vl==0)=false:=by simpa using q18
       have hF:=Zg (show (false)=R by first|exact hR|(rw[←hR];simp[q1,q11,q16,q17,q18]));clear hR;have h0:=Zg h0;go_enter func39,ntmps39;go_wp2_with fail;obtain⟨W,yy,hW,⟨z,hz⟩,cb0,cb1⟩:=ZF V _ _ 111 79;rw[hW];have c0_0:=cb0 0 _ rfl;have c0_1:=cb0 1 _ rfl;have c0_2:=cb0 2 _ rfl;have c0_3:=cb0 3 _ rfl;have c1_0:=cb1 0 _ rfl;have c1_1:=cb1 1 _ rfl;have c1_2:=cb1 2 _ rfl;have c1_3:=cb1 3 _ rfl;have c1_4:=cb1 4 _ rfl;have c1_5:=cb1 5 _ rfl;have q0c:=Zg (Zy hz h0.out);have Zw:=Zg hz;clear hW hz cb0 cb1;refine (q0c.out _).mono ?_;rintro r w' ⟨rfl,x1,rfl⟩;go_wp2_with fail;go_ret;exact⟨congrArg (fun z=>Zf (Zs z)) hF.out,by rw[Zw.out,Zx];exact⟨_,rfl⟩⟩
      case pos =>
       have hF:=Zg (show (true)=R by first|exact hR|(rw[←hR];simp[q1,q11,q16,q17,q18]));clear hR;have h0:=Zg h0;go_enter func39,ntmps39;go_wp2_with fail;obtain⟨W,yy,hW,⟨z,hz⟩,cb0,cb1⟩:=ZF V _ _ 111 79;rw[hW];have c0_0:=cb0 0 _ rfl;have c0_1:=cb0 1 _ rfl;have c0_2:=cb0 2 _ rfl;have c0_3:=cb0 3 _ rfl;have c1_0:=cb1 0 _ rfl;have c1_1:=cb1 1 _ rfl;have c1_2:=cb1 2 _ rfl;have c1_3:=cb1 3 _ rfl;have c1_4:=cb1 4 _ rfl;have c1_5:=cb1 5 _ rfl;have q0c:=Zg (Zy hz h0.out);have Zw:=Zg hz;clear hW hz cb0 cb1;refine (q0c.out _).mono ?_;rintro r w' ⟨rfl,x1,rfl⟩;go_wp2_with fail;go_ret;exact⟨congrArg (fun z=>Zf (Zs z)) hF.out,by rw[Zw.out,Zx];exact⟨_,rfl⟩⟩
    case pos =>
     have hF:=Zg (show (true)=R by first|exact hR|(rw[←hR];simp[q1,q11,q16]));clear hR;have h0:=Zg h0;go_enter func39,ntmps39;go_wp2_with fail;obtain⟨W,yy,hW,⟨z,hz⟩,cb0,cb1⟩:=ZF V _ _ 111 79;rw[hW];have c0_0:=cb0 0 _ rfl;have c0_1:=cb0 1 _ rfl;have c0_2:=cb0 2 _ rfl;have c0_3:=cb0 3 _ rfl;have c1_0:=cb1 0 _ rfl;have c1_1:=cb1 1 _ rfl;have c1_2:=cb1 2 _ rfl;have c1_3:=cb1 3 _ rfl;have c1_4:=cb1 4 _ rfl;have c1_5:=cb1 5 _ rfl;have q0c:=Zg (Zy hz h0.out);have Zw:=Zg hz;clear hW hz cb0 cb1;refine (q0c.out _).mono ?_;rintro r w' ⟨rfl,x1,rfl⟩;go_wp2_with fail;go_ret;exact⟨congrArg (fun z=>Zf (Zs z)) hF.out,by rw[Zw.out,Zx];exact⟨_,rfl⟩⟩
theorem Ji(kd ia ib ep en ec to_ n m w) :
  Kp Zr w 96 #[.agg #[.int .u8 kd,.int .i64 ia,.int .i64 ib,.slice ep en ec,.int .i64 to_],.int .i64 n,.int .i64 m] (.bool (if kd==7||kd==8 then decide (n<to_)&&decide (to_≤m) else to_==0)):=by
 intro y0;obtain⟨V,hV⟩:=Zv (plus w y0);rw[hV]at ⊢;clear hV;obtain⟨R,hR⟩:=Zv (if kd==7||kd==8 then decide (n<to_)&&decide (to_≤m) else to_==0);rw[hR];by_cases q1:(kd==7)=true
 case neg =>
  have q1:(kd==7)=false:=by simpa using q1
  by_cases q2:(kd==8)=true
  case neg =>
   have q2:(kd==8)=false:=by simpa using q2
   by_cases q3:(to_==0)=true
   case neg =>
    have q3:(to_==0)=false:=by simpa using q3
    have hF:=Zg (show (false)=R by first|exact hR|(rw[←hR];simp[q1,q2,q3]));clear hR;go_enter func96,ntmps96;go_wp2_with fail;go_ret;exact⟨congrArg (fun z=>Zf (Zs z)) hF.out,ZW _ _⟩
   case pos =>
    have hF:=Zg (show (true)=R by first|exact hR|(rw[←hR];simp[q1,q2,q3]));clear hR;go_enter func96,ntmps96;go_wp2_with fail;go_ret;exact⟨congrArg (fun z=>Zf (Zs z)) hF.out,ZW _ _⟩
  case pos =>
   by_cases q4:n<to_
   case neg =>
    have hF:=Zg (show (false)=R by first|exact hR|(rw[←hR];simp[q1,q2,q4]));clear hR;go_enter func96,ntmps96;go_wp2_with fail;go_ret;exact⟨congrArg (fun z=>Zf (Zs z)) hF.out,ZW _ _⟩
   case pos =>
    by_cases q5:to_≤m
    case neg =>
     have hF:=Zg (show (false)=R by first|exact hR|(rw[←hR];simp[q1,q2,q4,q5]));clear hR;go_enter func96,ntmps96;go_wp2_with fail;go_ret;exact⟨congrArg (fun z=>Zf (Zs z)) hF.out,ZW _ _⟩
    case pos =>
     have hF:=Zg (show (true)=R by first|exact hR|(rw[←hR];simp[q1,q2,q4,q5]));clear hR;go_enter func96,ntmps96;go_wp2_with fail;go_ret;exact⟨congrArg (fun z=>Zf (Zs z)) hF.out,ZW _ _⟩
 case pos =>
  by_cases q6:n<to_
  case neg =>
   have hF:=Zg (show (false)=R by first|exact hR|(rw[←hR];simp[q1,q6]));clear hR;go_enter func96,ntmps96;go_wp2_with fail;go_ret;exact⟨congrArg (fun z=>Zf (Zs z)) hF.out,ZW _ _⟩
  case pos =>
   by_cases q7:to_≤m
   case neg =>
    have hF:=Zg (show (false)=R by first|exact hR|(rw[←hR];simp[q1,q6,q7]));clear hR;go_enter func96,ntmps96;go_wp2_with fail;go_ret;exact⟨congrArg (fun z=>Zf (Zs z)) hF.out,ZW _ _⟩
   case pos =>
    have hF:=Zg (show (true)=R by first|exact hR|(rw[←hR];simp[q1,q6,q7]));clear hR;go_enter func96,ntmps96;go_wp2_with fail;go_ret;exact⟨congrArg (fun z=>Zf (Zs z)) hF.out,ZW _ _⟩
def TQ{α:Type}(l:List (Sl α))(n:Int):Value:=if 0≤n∧n<(l.length:Int) then (match l[n.toNat]? with|some s=>s.v|none=>.slice none 0 0) else .slice none 0 0
theorem Sr{P:Program}{V:World}{f:FuncId}{args:Array Value}{v:Value}(h:Vh P V f args v):Calls P f args V fun e w'=>e=.returned v∧∃x,w'=plus V x:=by
 have:=h ⟨#[],V.drawn⟩;rwa [ZK]at this
theorem RX(A:Sl Int)(n)(K:Int→Prop)(w:World)(hA:A.In w 1 (Z8 .i64) K)(hl:A.l.length≤1048576):Kp Zr w 71 #[A.v,.int .i64 n] (Zt .i64 (Xb A.l n)):=by
 intro y0;obtain⟨p,cap,l⟩:=A;simp only[Sl.v]at hl ⊢;have hA:=hA.row.plus y0;obtain⟨W,hW⟩:=Zv (plus w y0);rw[hW]at hA ⊢;clear hW;have h0:=R0 n p l.length cap W;obtain⟨R,hR⟩:=Zv (Zt .i64 (Xb l n));rw[hR];by_cases hn:0≤n∧n<(l.length:Int)
 case pos =>
  have h1:=h0.eqv (show Zs (decide (0≤n)&&decide (n<(l.length:Int)))=.bool true by rw[decide_eq_true hn.1,decide_eq_true hn.2];rfl);obtain⟨k,rfl⟩:∃k:Nat,n=(k:Int):=⟨n.toNat,by omega⟩;have Zz:k<l.length:=by omega
  obtain⟨x,hx⟩:=Z6 l k Zz;obtain⟨pa,rfl,hc⟩:=hA k x hx;have d0:=fun y=>(hc.plus y).c0 _ rfl;simp only[Nat.mul_one]at d0;have hF:=Zg (show Zt .i64 x=R by rw[←hR];unfold Xb;rw[if_pos hn];simp[hx]);obtain⟨m,hm⟩:=Zv l.length;rw[hm]at Zz hl h1 ⊢;have X2:=Zg h1;clear h0 h1 hR hA hc hn hx hm;go_enter func71,ntmps71;go_wp2_with fail;refine (YN X2.out).mono ?_;rintro r w' ⟨rfl,x1,rfl⟩;go_wp2_with fail;go_ret;exact⟨congrArg Zf hF.out,_,rfl⟩
 case neg =>
  have h1:=h0.eqv (show Zs (decide (0≤n)&&decide (n<(l.length:Int)))=.bool false by
   by_cases c:0≤n
   ·rw[decide_eq_false (show ¬n<(l.length:Int) from fun d=>hn ⟨c,d⟩),Bool.and_false]
   ·rw[decide_eq_false c,Bool.false_and])
  have hF:=Zg (show Zt .i64 0=R by rw[←hR];unfold Xb;rw[if_neg hn]);have X2:=Zg h1;clear h0 h1 hR hA hn;go_enter func71,ntmps71;go_wp2_with fail;refine (YN X2.out).mono ?_;rintro r w' ⟨rfl,x1,rfl⟩;go_wp2_with fail;go_ret;exact⟨congrArg Zf hF.out,_,rfl⟩
theorem PF(A:Sl (Sl Int))(n)(K:(Sl Int)→Prop)(w:World)(hA:A.In w 1 YY K)(hl:A.l.length≤1048576):Kp Zr w 72 #[A.v,.int .i64 n] (TQ A.l n):=by
 intro y0;obtain⟨p,cap,l⟩:=A;simp only[Sl.v]at hl ⊢;have hA:=hA.row.plus y0;obtain⟨W,hW⟩:=Zv (plus w y0);rw[hW]at hA ⊢;clear hW;have h0:=SH n p l.length cap W;obtain⟨R,hR⟩:=Zv (TQ l n);rw[hR];by_cases hn:0≤n∧n<(l.length:Int)
 case pos =>
  have h1:=h0.eqv (show Zs (decide (0≤n)&&decide (n<(l.length:Int)))=.bool true by rw[decide_eq_true hn.1,decide_eq_true hn.2];rfl);obtain⟨k,rfl⟩:∃k:Nat,n=(k:Int):=⟨n.toNat,by omega⟩;have Zz:k<l.length:=by omega
  obtain⟨x,hx⟩:=Z6 l k Zz;obtain⟨pa,rfl,hc⟩:=hA k x hx;have d0:=fun y=>(hc.plus y).c0 _ rfl;simp only[Nat.mul_one]at d0;have hF:=Zg (show x.v=R by rw[←hR];unfold TQ;rw[if_pos hn];simp[hx]);obtain⟨m,hm⟩:=Zv l.length;rw[hm]at Zz hl h1 ⊢;have X2:=Zg h1;clear h0 h1 hR hA hc hn hx hm;go_enter func72,ntmps72;go_wp2_with fail;refine (YN X2.out).mono ?_;rintro r w' ⟨rfl,x1,rfl⟩;go_wp2_with fail;go_ret;exact⟨congrArg Zf hF.out,_,rfl⟩
 case neg =>
  have h1:=h0.eqv (show Zs (decide (0≤n)&&decide (n<(l.length:Int)))=.bool false by
   by_cases c:0≤n
   ·rw[decide_eq_false (show ¬n<(l.length:Int) from fun d=>hn ⟨c,d⟩),Bool.and_false]
   ·rw[decide_eq_false c,Bool.false_and])
  have hF:=Zg (show Value.slice none 0 0=R by rw[←hR];unfold TQ;rw[if_neg hn]);have X2:=Zg h1;clear h0 h1 hR hA hn;go_enter func72,ntmps72;go_wp2_with fail;refine (YN X2.out).mono ?_;rintro r w' ⟨rfl,x1,rfl⟩;go_wp2_with fail;go_ret;exact⟨congrArg Zf hF.out,_,rfl⟩
def TP(l:List At)(n:Int):Value:=if 0≤n∧n<(l.length:Int) then (match l[n.toNat]? with|some s=>.agg #[s.params.v,s.body.v]|none=>.agg #[.slice none 0 0,.slice none 0 0]) else .agg #[.slice none 0 0,.slice none 0 0]
theorem KE(A:Sl At)(n)(K:At→Prop)(w:World)(hA:A.In w 2 At.cells K)(hl:A.l.length≤1048576):Kp Zr w 73 #[A.v,.int .i64 n] (TP A.l n):=by
 intro y0;obtain⟨p,cap,l⟩:=A;simp only[Sl.v]at hl ⊢;have hA:=hA.row.plus y0;obtain⟨W,hW⟩:=Zv (plus w y0);rw[hW]at hA ⊢;clear hW;have h0:=RZ n p l.length cap W;obtain⟨R,hR⟩:=Zv (TP l n);rw[hR];by_cases hn:0≤n∧n<(l.length:Int)
 case pos =>
  have h1:=h0.eqv (show Zs (decide (0≤n)&&decide (n<(l.length:Int)))=.bool true by rw[decide_eq_true hn.1,decide_eq_true hn.2];rfl);obtain⟨k,rfl⟩:∃k:Nat,n=(k:Int):=⟨n.toNat,by omega⟩;have Zz:k<l.length:=by omega
  obtain⟨x,hx⟩:=Z6 l k Zz;obtain⟨pa,rfl,hc⟩:=hA k x hx;have hF:=Zg (show Value.agg #[x.params.v,x.body.v]=R by rw[←hR];unfold TP;rw[if_pos hn];simp[hx]);obtain⟨m,hm⟩:=Zv l.length;rw[hm]at Zz hl h1 ⊢;have X2:=Zg h1;have Vb:=Zg hc;clear h0 h1 hR hA hc hn hx hm;go_enter func73,ntmps73;go_upto_region 1 with (fail)
  obtain⟨X,hX,hB,hs,ca,fa⟩:=Vx W _ 54;rw[←hX];have cr0:=ca 0 (some (.slice none 0 0)) rfl;have cr1:=ca 1 (some (.slice none 0 0)) rfl;obtain⟨z,hz⟩:=ZS hB;have q:=Zy hz X2.out;have u:ZG X _ _:=hz▸Vb.out.plus z;have d0:=fun y=>(u.plus y).c0 _ rfl;have d1:=fun y=>(u.plus y).cs 0 _ rfl;simp only[Sl.v]at d0 d1;have q1:=Zg (Sr q);clear hX ca q hz Vb X2 u;go_wp2_with fail;refine q1.out.mono ?_;rintro r w' ⟨rfl,x1,rfl⟩;go_wp2_with fail;exact bodyPost_ret (v:=.agg #[.slice x.params.p x.params.l.length x.params.cap,.slice x.body.p x.body.l.length x.body.cap]) (by simp[results,Tryz.results73,go_sem,cr0,cr1]) rfl ⟨congrArg Zf hF.out,Us hB (by omega) _ _⟩
 case neg =>
  have h1:=h0.eqv (show Zs (decide (0≤n)&&decide (n<(l.length:Int)))=.bool false by
   by_cases c:0≤n
   ·rw[decide_eq_false (show ¬n<(l.length:Int) from fun d=>hn ⟨c,d⟩),Bool.and_false]
   ·rw[decide_eq_false c,Bool.false_and])
  have hF:=Zg (show Value.agg #[.slice none 0 0,.slice none 0 0]=R by rw[←hR];unfold TP;rw[if_neg hn]);have X2:=Zg h1;clear h0 h1 hR hA hn;go_enter func73,ntmps73;go_upto_region 1 with (fail)
  obtain⟨X,hX,hB,hs,ca,fa⟩:=Vx W _ 54;rw[←hX];have cr0:=ca 0 (some (.slice none 0 0)) rfl;have cr1:=ca 1 (some (.slice none 0 0)) rfl;obtain⟨z,hz⟩:=ZS hB;have q1:=Zg (Sr (Zy hz X2.out));clear hX ca hz X2;go_wp2_with fail;refine q1.out.mono ?_;rintro r w' ⟨rfl,x1,rfl⟩;go_upto_region 3 with (fail)
  obtain⟨x2,hx2⟩:=Ri X x1 (.cells #[.slice none 0 0,.slice none 0 0] 54);have e0:=Z4 (plus X x1) #[.slice none 0 0,.slice none 0 0] 54 _ 0 rfl;have e1:=Z4 (plus X x1) #[.slice none 0 0,.slice none 0 0] 54 _ 1 rfl;rw[hx2]at e0 e1 ⊢;clear hx2;go_wp2_with fail;exact bodyPost_ret (v:=.agg #[.slice none 0 0,.slice none 0 0]) (by simp[results,Tryz.results73,go_sem,cr0,cr1]) rfl ⟨congrArg Zf hF.out,Us hB (by omega) _ _⟩
end Go.Proofs.YtheaknidbcbneaaGreat

/-
  WHAT IS PROVED HERE: a part of the proof (made narrower and merged by program; the parts: Lrb).
-/
import Derived.Test.YtheaknidbcbneaaGreatM37
set_option maxRecDepth 100000
set_option maxHeartbeats 8000000
set_option linter.all false
namespace Go.Proofs.YtheaknidbcbneaaGreat
open Go.RowKit Go.Proofs.Tryz
open Ending renaming returned→Zf
open Lib renaming hid→Zg
open Go.Proofs.Tryz renaming prog→Zr
open Value renaming int→Zt
open Go.RowKit
theorem Gw(nw na nb vh vl x w) :
  Kp Zr w 18 #[.agg #[.int .u8 7,.int .i64 nw,.int .i64 na,.int .i64 nb,.int .u64 vh,.int .u64 vl],.int .i64 x] (.int .i64 (if na==0&&nb==0 then x else 0)):=by
 intro y0;obtain⟨V,hV⟩:=Zv (plus w y0);rw[hV]at ⊢;clear hV;obtain⟨R,hR⟩:=Zv ((if na==0&&nb==0 then x else 0):Int);rw[hR];by_cases q1:(na==0)=true
 case neg =>
  have q1:(na==0)=false:=by simpa using q1
  have q1n:(na !=0)=true:=by simp[bne,q1]
  have hF:=Zg (show (0)=R by first|exact hR|(rw[←hR];simp[q1]));clear hR;go_enter func18,ntmps18;go_wp2_with fail;go_ret;exact⟨congrArg (fun z=>Zf (Zt .i64 z)) hF.out,ZW _ _⟩
 case pos =>
  have q1n:(na !=0)=false:=by simp[bne,q1]
  by_cases q2:(nb==0)=true
  case neg =>
   have q2:(nb==0)=false:=by simpa using q2
   have q2n:(nb !=0)=true:=by simp[bne,q2]
   have hF:=Zg (show (0)=R by first|exact hR|(rw[←hR];simp[q1,q2]));clear hR;go_enter func18,ntmps18;go_wp2_with fail;go_ret;exact⟨congrArg (fun z=>Zf (Zt .i64 z)) hF.out,ZW _ _⟩
  case pos =>
   have q2n:(nb !=0)=false:=by simp[bne,q2]
   have hF:=Zg (show (x)=R by first|exact hR|(rw[←hR];simp[q1,q2]));clear hR;go_enter func18,ntmps18;go_wp2_with fail;go_ret;exact⟨congrArg (fun z=>Zf (Zt .i64 z)) hF.out,ZW _ _⟩
theorem Gx(nw na nb vh vl x w) :
  Kp Zr w 18 #[.agg #[.int .u8 8,.int .i64 nw,.int .i64 na,.int .i64 nb,.int .u64 vh,.int .u64 vl],.int .i64 x] (.int .i64 (if na==0&&nb==0 then x else 0)):=by
 intro y0;obtain⟨V,hV⟩:=Zv (plus w y0);rw[hV]at ⊢;clear hV;obtain⟨R,hR⟩:=Zv ((if na==0&&nb==0 then x else 0):Int);rw[hR];by_cases q1:(na==0)=true
 case neg =>
  have q1:(na==0)=false:=by simpa using q1
  have q1n:(na !=0)=true:=by simp[bne,q1]
  have hF:=Zg (show (0)=R by first|exact hR|(rw[←hR];simp[q1]));clear hR;go_enter func18,ntmps18;go_wp2_with fail;go_ret;exact⟨congrArg (fun z=>Zf (Zt .i64 z)) hF.out,ZW _ _⟩
 case pos =>
  have q1n:(na !=0)=false:=by simp[bne,q1]
  by_cases q2:(nb==0)=true
  case neg =>
   have q2:(nb==0)=false:=by simpa using q2
   have q2n:(nb !=0)=true:=by simp[bne,q2]
   have hF:=Zg (show (0)=R by first|exact hR|(rw[←hR];simp[q1,q2]));clear hR;go_enter func18,ntmps18;go_wp2_with fail;go_ret;exact⟨congrArg (fun z=>Zf (Zt .i64 z)) hF.out,ZW _ _⟩
  case pos =>
   have q2n:(nb !=0)=false:=by simp[bne,q2]
   have hF:=Zg (show (x)=R by first|exact hR|(rw[←hR];simp[q1,q2]));clear hR;go_enter func18,ntmps18;go_wp2_with fail;go_ret;exact⟨congrArg (fun z=>Zf (Zt .i64 z)) hF.out,ZW _ _⟩
theorem Gu(nw na nb vh vl x w) :
  Kp Zr w 18 #[.agg #[.int .u8 13,.int .i64 nw,.int .i64 na,.int .i64 nb,.int .u64 vh,.int .u64 vl],.int .i64 x] (.int .i64 (if nb==0&&(decide (0≤na)&&decide (na≤127)) then x else 0)):=by
 intro y0;obtain⟨V,hV⟩:=Zv (plus w y0);rw[hV]at ⊢;clear hV;obtain⟨R,hR⟩:=Zv ((if nb==0&&(decide (0≤na)&&decide (na≤127)) then x else 0):Int);rw[hR];by_cases q1:(nb==0)=true
 case neg =>
  have q1:(nb==0)=false:=by simpa using q1
  have q1n:(nb !=0)=true:=by simp[bne,q1]
  have hF:=Zg (show (0)=R by first|exact hR|(rw[←hR];simp[q1]));clear hR;go_enter func18,ntmps18;go_wp2_with fail;go_ret;exact⟨congrArg (fun z=>Zf (Zt .i64 z)) hF.out,ZW _ _⟩
 case pos =>
  have q1n:(nb !=0)=false:=by simp[bne,q1]
  by_cases q2:0≤na
  case neg =>
   have q2b:decide (0≤na)=false:=decide_eq_false q2;have hF:=Zg (show (0)=R by first|exact hR|(rw[←hR];simp[q1,q2]));clear hR;go_enter func18,ntmps18;go_wp2_with fail;go_ret;exact⟨congrArg (fun z=>Zf (Zt .i64 z)) hF.out,ZW _ _⟩
  case pos =>
   have q2b:decide (0≤na)=true:=decide_eq_true q2;by_cases q3:na≤127
   case neg =>
    have q3b:decide (na≤127)=false:=decide_eq_false q3;have hF:=Zg (show (0)=R by first|exact hR|(rw[←hR];simp[q1,q2,q3]));clear hR;go_enter func18,ntmps18;go_wp2_with fail;go_ret;exact⟨congrArg (fun z=>Zf (Zt .i64 z)) hF.out,ZW _ _⟩
   case pos =>
    have q3b:decide (na≤127)=true:=decide_eq_true q3;have hF:=Zg (show (x)=R by first|exact hR|(rw[←hR];simp[q1,q2,q3]));clear hR;go_enter func18,ntmps18;go_wp2_with fail;go_ret;exact⟨congrArg (fun z=>Zf (Zt .i64 z)) hF.out,ZW _ _⟩
theorem Gv(nw na nb vh vl x w) :
  Kp Zr w 18 #[.agg #[.int .u8 14,.int .i64 nw,.int .i64 na,.int .i64 nb,.int .u64 vh,.int .u64 vl],.int .i64 x] (.int .i64 (if nb==0&&(decide (0≤na)&&decide (na≤127)) then x else 0)):=by
 intro y0;obtain⟨V,hV⟩:=Zv (plus w y0);rw[hV]at ⊢;clear hV;obtain⟨R,hR⟩:=Zv ((if nb==0&&(decide (0≤na)&&decide (na≤127)) then x else 0):Int);rw[hR];by_cases q1:(nb==0)=true
 case neg =>
  have q1:(nb==0)=false:=by simpa using q1
  have q1n:(nb !=0)=true:=by simp[bne,q1]
  have hF:=Zg (show (0)=R by first|exact hR|(rw[←hR];simp[q1]));clear hR;go_enter func18,ntmps18;go_wp2_with fail;go_ret;exact⟨congrArg (fun z=>Zf (Zt .i64 z)) hF.out,ZW _ _⟩
 case pos =>
  have q1n:(nb !=0)=false:=by simp[bne,q1]
  by_cases q2:0≤na
  case neg =>
   have q2b:decide (0≤na)=false:=decide_eq_false q2;have hF:=Zg (show (0)=R by first|exact hR|(rw[←hR];simp[q1,q2]));clear hR;go_enter func18,ntmps18;go_wp2_with fail;go_ret;exact⟨congrArg (fun z=>Zf (Zt .i64 z)) hF.out,ZW _ _⟩
  case pos =>
   have q2b:decide (0≤na)=true:=decide_eq_true q2;by_cases q3:na≤127
   case neg =>
    have q3b:decide (na≤127)=false:=decide_eq_false q3;have hF:=Zg (show (0)=R by first|exact hR|(rw[←hR];simp[q1,q2,q3]));clear hR;go_enter func18,ntmps18;go_wp2_with fail;go_ret;exact⟨congrArg (fun z=>Zf (Zt .i64 z)) hF.out,ZW _ _⟩
   case pos =>
    have q3b:decide (na≤127)=true:=decide_eq_true q3;have hF:=Zg (show (x)=R by first|exact hR|(rw[←hR];simp[q1,q2,q3]));clear hR;go_enter func18,ntmps18;go_wp2_with fail;go_ret;exact⟨congrArg (fun z=>Zf (Zt .i64 z)) hF.out,ZW _ _⟩
theorem Gy(nw na nb vh vl x:Int)(w)(hx:x≤1000) :
  Kp Zr w 18 #[.agg #[.int .u8 9,.int .i64 nw,.int .i64 na,.int .i64 nb,.int .u64 vh,.int .u64 vl],.int .i64 x] (.int .i64 (if 0≤nb∧nb≤na∧na<x then na-nb+1 else 0)):=by
 intro y0;obtain⟨V,hV⟩:=Zv (plus w y0);rw[hV]at ⊢;clear hV;obtain⟨R,hR⟩:=Zv ((if 0≤nb∧nb≤na∧na<x then na-nb+1 else 0):Int);rw[hR];by_cases q1:0≤nb
 case neg =>
  have q1b:decide (0≤nb)=false:=decide_eq_false q1;have hF:=Zg (show (0)=R by first|exact hR|(rw[←hR];simp[q1]));clear hR;go_enter func18,ntmps18;go_wp2_with fail;go_ret;exact⟨congrArg (fun z=>Zf (Zt .i64 z)) hF.out,ZW _ _⟩
 case pos =>
  have q1b:decide (0≤nb)=true:=decide_eq_true q1;by_cases q2:nb≤na
  case neg =>
   have q2b:decide (nb≤na)=false:=decide_eq_false q2;have hF:=Zg (show (0)=R by first|exact hR|(rw[←hR];simp[q1,q2]));clear hR;go_enter func18,ntmps18;go_wp2_with fail;go_ret;exact⟨congrArg (fun z=>Zf (Zt .i64 z)) hF.out,ZW _ _⟩
  case pos =>
   have q2b:decide (nb≤na)=true:=decide_eq_true q2;by_cases q3:na<x
   case neg =>
    have q3b:decide (na<x)=false:=decide_eq_false q3;have hF:=Zg (show (0)=R by first|exact hR|(rw[←hR];simp[q1,q2,q3]));clear hR;go_enter func18,ntmps18;go_wp2_with fail;go_ret;exact⟨congrArg (fun z=>Zf (Zt .i64 z)) hF.out,ZW _ _⟩
   case pos =>
    have q3b:decide (na<x)=true:=decide_eq_true q3;have hF:=Zg (show (na-nb+1)=R by first|exact hR|(rw[←hR];simp[q1,q2,q3]));clear hR;go_enter func18,ntmps18;go_wp2_with fail;go_ret;exact⟨congrArg (fun z=>Zf (Zt .i64 z)) hF.out,ZW _ _⟩
theorem H7(nw na nb vh vl x y:Int)(w)(hx:0≤x∧x≤1000)(hy:0≤y∧y≤1000) :
  Kp Zr w 19 #[.agg #[.int .u8 10,.int .i64 nw,.int .i64 na,.int .i64 nb,.int .u64 vh,.int .u64 vl],.int .i64 x,.int .i64 y] (.int .i64 (if na==0&&nb==0 then x+y else 0)):=by
 intro y0;obtain⟨V,hV⟩:=Zv (plus w y0);rw[hV]at ⊢;clear hV;obtain⟨R,hR⟩:=Zv ((if na==0&&nb==0 then x+y else 0):Int);rw[hR];by_cases q1:(na==0)=true
 case neg =>
  have q1:(na==0)=false:=by simpa using q1
  have q1n:(na !=0)=true:=by simp[bne,q1]
  have hF:=Zg (show (0)=R by first|exact hR|(rw[←hR];simp[q1]));clear hR;go_enter func19,ntmps19;go_wp2_with fail;go_ret;exact⟨congrArg (fun z=>Zf (Zt .i64 z)) hF.out,ZW _ _⟩
 case pos =>
  have q1n:(na !=0)=false:=by simp[bne,q1]
  by_cases q2:(nb==0)=true
  case neg =>
   have q2:(nb==0)=false:=by simpa using q2
   have q2n:(nb !=0)=true:=by simp[bne,q2]
   have hF:=Zg (show (0)=R by first|exact hR|(rw[←hR];simp[q1,q2]));clear hR;go_enter func19,ntmps19;go_wp2_with fail;go_ret;exact⟨congrArg (fun z=>Zf (Zt .i64 z)) hF.out,ZW _ _⟩
  case pos =>
   have q2n:(nb !=0)=false:=by simp[bne,q2]
   have hF:=Zg (show (x+y)=R by first|exact hR|(rw[←hR];simp[q1,q2]));clear hR;go_enter func19,ntmps19;go_wp2_with fail;go_ret;exact⟨congrArg (fun z=>Zf (Zt .i64 z)) hF.out,ZW _ _⟩
theorem H8(nw na nb vh vl x y w) :
  Kp Zr w 19 #[.agg #[.int .u8 11,.int .i64 nw,.int .i64 na,.int .i64 nb,.int .u64 vh,.int .u64 vl],.int .i64 x,.int .i64 y] (.int .i64 (if na==0&&(nb==0&&x==y) then x else 0)):=by
 intro y0;obtain⟨V,hV⟩:=Zv (plus w y0);rw[hV]at ⊢;clear hV;obtain⟨R,hR⟩:=Zv ((if na==0&&(nb==0&&x==y) then x else 0):Int);rw[hR];by_cases q1:(na==0)=true
 case neg =>
  have q1:(na==0)=false:=by simpa using q1
  have q1n:(na !=0)=true:=by simp[bne,q1]
  have hF:=Zg (show (0)=R by first|exact hR|(rw[←hR];simp[q1]));clear hR;go_enter func19,ntmps19;go_wp2_with fail;go_ret;exact⟨congrArg (fun z=>Zf (Zt .i64 z)) hF.out,ZW _ _⟩
 case pos =>
  have q1n:(na !=0)=false:=by simp[bne,q1]
  by_cases q2:(nb==0)=true
  case neg =>
   have q2:(nb==0)=false:=by simpa using q2
   have q2n:(nb !=0)=true:=by simp[bne,q2]
   have hF:=Zg (show (0)=R by first|exact hR|(rw[←hR];simp[q1,q2]));clear hR;go_enter func19,ntmps19;go_wp2_with fail;go_ret;exact⟨congrArg (fun z=>Zf (Zt .i64 z)) hF.out,ZW _ _⟩
  case pos =>
   have q2n:(nb !=0)=false:=by simp[bne,q2]
   by_cases q3:(x==y)=true
   case neg =>
    have q3:(x==y)=false:=by simpa using q3
    have q3n:(x !=y)=true:=by simp[bne,q3]
    have hF:=Zg (show (0)=R by first|exact hR|(rw[←hR];simp[q1,q2,q3]));clear hR;go_enter func19,ntmps19;go_wp2_with fail;go_ret;exact⟨congrArg (fun z=>Zf (Zt .i64 z)) hF.out,ZW _ _⟩
   case pos =>
    have q3n:(x !=y)=false:=by simp[bne,q3]
    have hF:=Zg (show (x)=R by first|exact hR|(rw[←hR];simp[q1,q2,q3]));clear hR;go_enter func19,ntmps19;go_wp2_with fail;go_ret;exact⟨congrArg (fun z=>Zf (Zt .i64 z)) hF.out,ZW _ _⟩
theorem H9(nw na nb vh vl x y w) :
  Kp Zr w 19 #[.agg #[.int .u8 12,.int .i64 nw,.int .i64 na,.int .i64 nb,.int .u64 vh,.int .u64 vl],.int .i64 x,.int .i64 y] (.int .i64 (if na==0&&(nb==0&&x==y) then x else 0)):=by
 intro y0;obtain⟨V,hV⟩:=Zv (plus w y0);rw[hV]at ⊢;clear hV;obtain⟨R,hR⟩:=Zv ((if na==0&&(nb==0&&x==y) then x else 0):Int);rw[hR];by_cases q1:(na==0)=true
 case neg =>
  have q1:(na==0)=false:=by simpa using q1
  have q1n:(na !=0)=true:=by simp[bne,q1]
  have hF:=Zg (show (0)=R by first|exact hR|(rw[←hR];simp[q1]));clear hR;go_enter func19,ntmps19;go_wp2_with fail;go_ret;exact⟨congrArg (fun z=>Zf (Zt .i64 z)) hF.out,ZW _ _⟩
 case pos =>
  have q1n:(na !=0)=false:=by simp[bne,q1]
  by_cases q2:(nb==0)=true
  case neg =>
   have q2:(nb==0)=false:=by simpa using q2
   have q2n:(nb !=0)=true:=by simp[bne,q2]
   have hF:=Zg (show (0)=R by first|exact hR|(rw[←hR];simp[q1,q2]));clear hR;go_enter func19,ntmps19;go_wp2_with fail;go_ret;exact⟨congrArg (fun z=>Zf (Zt .i64 z)) hF.out,ZW _ _⟩
  case pos =>
   have q2n:(nb !=0)=false:=by simp[bne,q2]
   by_cases q3:(x==y)=true
   case neg =>
    have q3:(x==y)=false:=by simpa using q3
    have q3n:(x !=y)=true:=by simp[bne,q3]
    have hF:=Zg (show (0)=R by first|exact hR|(rw[←hR];simp[q1,q2,q3]));clear hR;go_enter func19,ntmps19;go_wp2_with fail;go_ret;exact⟨congrArg (fun z=>Zf (Zt .i64 z)) hF.out,ZW _ _⟩
   case pos =>
    have q3n:(x !=y)=false:=by simp[bne,q3]
    have hF:=Zg (show (x)=R by first|exact hR|(rw[←hR];simp[q1,q2,q3]));clear hR;go_enter func19,ntmps19;go_wp2_with fail;go_ret;exact⟨congrArg (fun z=>Zf (Zt .i64 z)) hF.out,ZW _ _⟩
theorem Ga(nw na nb vh vl x y w) :
  Kp Zr w 19 #[.agg #[.int .u8 15,.int .i64 nw,.int .i64 na,.int .i64 nb,.int .u64 vh,.int .u64 vl],.int .i64 x,.int .i64 y] (.int .i64 (if na==0&&(nb==0&&x==y) then x else 0)):=by
 intro y0;obtain⟨V,hV⟩:=Zv (plus w y0);rw[hV]at ⊢;clear hV;obtain⟨R,hR⟩:=Zv ((if na==0&&(nb==0&&x==y) then x else 0):Int);rw[hR];by_cases q1:(na==0)=true
 case neg =>
  have q1:(na==0)=false:=by simpa using q1
  have q1n:(na !=0)=true:=by simp[bne,q1]
  have hF:=Zg (show (0)=R by first|exact hR|(rw[←hR];simp[q1]));clear hR;go_enter func19,ntmps19;go_wp2_with fail;go_ret;exact⟨congrArg (fun z=>Zf (Zt .i64 z)) hF.out,ZW _ _⟩
 case pos =>
  have q1n:(na !=0)=false:=by simp[bne,q1]
  by_cases q2:(nb==0)=true
  case neg =>
   have q2:(nb==0)=false:=by simpa using q2
   have q2n:(nb !=0)=true:=by simp[bne,q2]
   have hF:=Zg (show (0)=R by first|exact hR|(rw[←hR];simp[q1,q2]));clear hR;go_enter func19,ntmps19;go_wp2_with fail;go_ret;exact⟨congrArg (fun z=>Zf (Zt .i64 z)) hF.out,ZW _ _⟩
  case pos =>
   have q2n:(nb !=0)=false:=by simp[bne,q2]
   by_cases q3:(x==y)=true
   case neg =>
    have q3:(x==y)=false:=by simpa using q3
    have q3n:(x !=y)=true:=by simp[bne,q3]
    have hF:=Zg (show (0)=R by first|exact hR|(rw[←hR];simp[q1,q2,q3]));clear hR;go_enter func19,ntmps19;go_wp2_with fail;go_ret;exact⟨congrArg (fun z=>Zf (Zt .i64 z)) hF.out,ZW _ _⟩
   case pos =>
    have q3n:(x !=y)=false:=by simp[bne,q3]
    have hF:=Zg (show (x)=R by first|exact hR|(rw[←hR];simp[q1,q2,q3]));clear hR;go_enter func19,ntmps19;go_wp2_with fail;go_ret;exact⟨congrArg (fun z=>Zf (Zt .i64 z)) hF.out,ZW _ _⟩
theorem Gb(nw na nb vh vl x y w) :
  Kp Zr w 19 #[.agg #[.int .u8 16,.int .i64 nw,.int .i64 na,.int .i64 nb,.int .u64 vh,.int .u64 vl],.int .i64 x,.int .i64 y] (.int .i64 (if na==0&&(nb==0&&x==y) then x else 0)):=by
 intro y0;obtain⟨V,hV⟩:=Zv (plus w y0);rw[hV]at ⊢;clear hV;obtain⟨R,hR⟩:=Zv ((if na==0&&(nb==0&&x==y) then x else 0):Int);rw[hR];by_cases q1:(na==0)=true
 case neg =>
  have q1:(na==0)=false:=by simpa using q1
  have q1n:(na !=0)=true:=by simp[bne,q1]
  have hF:=Zg (show (0)=R by first|exact hR|(rw[←hR];simp[q1]));clear hR;go_enter func19,ntmps19;go_wp2_with fail;go_ret;exact⟨congrArg (fun z=>Zf (Zt .i64 z)) hF.out,ZW _ _⟩
 case pos =>
  have q1n:(na !=0)=false:=by simp[bne,q1]
  by_cases q2:(nb==0)=true
  case neg =>
   have q2:(nb==0)=false:=by simpa using q2
   have q2n:(nb !=0)=true:=by simp[bne,q2]
   have hF:=Zg (show (0)=R by first|exact hR|(rw[←hR];simp[q1,q2]));clear hR;go_enter func19,ntmps19;go_wp2_with fail;go_ret;exact⟨congrArg (fun z=>Zf (Zt .i64 z)) hF.out,ZW _ _⟩
  case pos =>
   have q2n:(nb !=0)=false:=by simp[bne,q2]
   by_cases q3:(x==y)=true
   case neg =>
    have q3:(x==y)=false:=by simpa using q3
    have q3n:(x !=y)=true:=by simp[bne,q3]
    have hF:=Zg (show (0)=R by first|exact hR|(rw[←hR];simp[q1,q2,q3]));clear hR;go_enter func19,ntmps19;go_wp2_with fail;go_ret;exact⟨congrArg (fun z=>Zf (Zt .i64 z)) hF.out,ZW _ _⟩
   case pos =>
    have q3n:(x !=y)=false:=by simp[bne,q3]
    have hF:=Zg (show (x)=R by first|exact hR|(rw[←hR];simp[q1,q2,q3]));clear hR;go_enter func19,ntmps19;go_wp2_with fail;go_ret;exact⟨congrArg (fun z=>Zf (Zt .i64 z)) hF.out,ZW _ _⟩
theorem Gc(nw na nb vh vl x y w) :
  Kp Zr w 19 #[.agg #[.int .u8 17,.int .i64 nw,.int .i64 na,.int .i64 nb,.int .u64 vh,.int .u64 vl],.int .i64 x,.int .i64 y] (.int .i64 (if na==0&&(nb==0&&x==y) then x else 0)):=by
 intro y0;obtain⟨V,hV⟩:=Zv (plus w y0);rw[hV]at ⊢;clear hV;obtain⟨R,hR⟩:=Zv ((if na==0&&(nb==0&&x==y) then x else 0):Int);rw[hR];by_cases q1:(na==0)=true
 case neg =>
  have q1:(na==0)=false:=by simpa using q1
  have q1n:(na !=0)=true:=by simp[bne,q1]
  have hF:=Zg (show (0)=R by first|exact hR|(rw[←hR];simp[q1]));clear hR;go_enter func19,ntmps19;go_wp2_with fail;go_ret;exact⟨congrArg (fun z=>Zf (Zt .i64 z)) hF.out,ZW _ _⟩
 case pos =>
  have q1n:(na !=0)=false:=by simp[bne,q1]
  by_cases q2:(nb==0)=true
  case neg =>
   have q2:(nb==0)=false:=by simpa using q2
   have q2n:(nb !=0)=true:=by simp[bne,q2]
   have hF:=Zg (show (0)=R by first|exact hR|(rw[←hR];simp[q1,q2]));clear hR;go_enter func19,ntmps19;go_wp2_with fail;go_ret;exact⟨congrArg (fun z=>Zf (Zt .i64 z)) hF.out,ZW _ _⟩
  case pos =>
   have q2n:(nb !=0)=false:=by simp[bne,q2]
   by_cases q3:(x==y)=true
   case neg =>
    have q3:(x==y)=false:=by simpa using q3
    have q3n:(x !=y)=true:=by simp[bne,q3]
    have hF:=Zg (show (0)=R by first|exact hR|(rw[←hR];simp[q1,q2,q3]));clear hR;go_enter func19,ntmps19;go_wp2_with fail;go_ret;exact⟨congrArg (fun z=>Zf (Zt .i64 z)) hF.out,ZW _ _⟩
   case pos =>
    have q3n:(x !=y)=false:=by simp[bne,q3]
    have hF:=Zg (show (x)=R by first|exact hR|(rw[←hR];simp[q1,q2,q3]));clear hR;go_enter func19,ntmps19;go_wp2_with fail;go_ret;exact⟨congrArg (fun z=>Zf (Zt .i64 z)) hF.out,ZW _ _⟩
theorem Gd(nw na nb vh vl x y w) :
  Kp Zr w 19 #[.agg #[.int .u8 18,.int .i64 nw,.int .i64 na,.int .i64 nb,.int .u64 vh,.int .u64 vl],.int .i64 x,.int .i64 y] (.int .i64 (if na==0&&(nb==0&&x==y) then 1 else 0)):=by
 intro y0;obtain⟨V,hV⟩:=Zv (plus w y0);rw[hV]at ⊢;clear hV;obtain⟨R,hR⟩:=Zv ((if na==0&&(nb==0&&x==y) then 1 else 0):Int);rw[hR];by_cases q1:(na==0)=true
 case neg =>
  have q1:(na==0)=false:=by simpa using q1
  have q1n:(na !=0)=true:=by simp[bne,q1]
  have hF:=Zg (show (0)=R by first|exact hR|(rw[←hR];simp[q1]));clear hR;go_enter func19,ntmps19;go_wp2_with fail;go_ret;exact⟨congrArg (fun z=>Zf (Zt .i64 z)) hF.out,ZW _ _⟩
 case pos =>
  have q1n:(na !=0)=false:=by simp[bne,q1]
  by_cases q2:(nb==0)=true
  case neg =>
   have q2:(nb==0)=false:=by simpa using q2
   have q2n:(nb !=0)=true:=by simp[bne,q2]
   have hF:=Zg (show (0)=R by first|exact hR|(rw[←hR];simp[q1,q2]));clear hR;go_enter func19,ntmps19;go_wp2_with fail;go_ret;exact⟨congrArg (fun z=>Zf (Zt .i64 z)) hF.out,ZW _ _⟩
  case pos =>
   have q2n:(nb !=0)=false:=by simp[bne,q2]
   by_cases q3:(x==y)=true
   case neg =>
    have q3:(x==y)=false:=by simpa using q3
    have q3n:(x !=y)=true:=by simp[bne,q3]
    have hF:=Zg (show (0)=R by first|exact hR|(rw[←hR];simp[q1,q2,q3]));clear hR;go_enter func19,ntmps19;go_wp2_with fail;go_ret;exact⟨congrArg (fun z=>Zf (Zt .i64 z)) hF.out,ZW _ _⟩
   case pos =>
    have q3n:(x !=y)=false:=by simp[bne,q3]
    have hF:=Zg (show (1)=R by first|exact hR|(rw[←hR];simp[q1,q2,q3]));clear hR;go_enter func19,ntmps19;go_wp2_with fail;go_ret;exact⟨congrArg (fun z=>Zf (Zt .i64 z)) hF.out,ZW _ _⟩
theorem Ge(nw na nb vh vl x y w) :
  Kp Zr w 19 #[.agg #[.int .u8 19,.int .i64 nw,.int .i64 na,.int .i64 nb,.int .u64 vh,.int .u64 vl],.int .i64 x,.int .i64 y] (.int .i64 (if na==0&&(nb==0&&x==y) then 1 else 0)):=by
 intro y0;obtain⟨V,hV⟩:=Zv (plus w y0);rw[hV]at ⊢;clear hV;obtain⟨R,hR⟩:=Zv ((if na==0&&(nb==0&&x==y) then 1 else 0):Int);rw[hR];by_cases q1:(na==0)=true
 case neg =>
  have q1:(na==0)=false:=by simpa using q1
  have q1n:(na !=0)=true:=by simp[bne,q1]
  have hF:=Zg (show (0)=R by first|exact hR|(rw[←hR];simp[q1]));clear hR;go_enter func19,ntmps19;go_wp2_with fail;go_ret;exact⟨congrArg (fun z=>Zf (Zt .i64 z)) hF.out,ZW _ _⟩
 case pos =>
  have q1n:(na !=0)=false:=by simp[bne,q1]
  by_cases q2:(nb==0)=true
  case neg =>
   have q2:(nb==0)=false:=by simpa using q2
   have q2n:(nb !=0)=true:=by simp[bne,q2]
   have hF:=Zg (show (0)=R by first|exact hR|(rw[←hR];simp[q1,q2]));clear hR;go_enter func19,ntmps19;go_wp2_with fail;go_ret;exact⟨congrArg (fun z=>Zf (Zt .i64 z)) hF.out,ZW _ _⟩
  case pos =>
   have q2n:(nb !=0)=false:=by simp[bne,q2]
   by_cases q3:(x==y)=true
   case neg =>
    have q3:(x==y)=false:=by simpa using q3
    have q3n:(x !=y)=true:=by simp[bne,q3]
    have hF:=Zg (show (0)=R by first|exact hR|(rw[←hR];simp[q1,q2,q3]));clear hR;go_enter func19,ntmps19;go_wp2_with fail;go_ret;exact⟨congrArg (fun z=>Zf (Zt .i64 z)) hF.out,ZW _ _⟩
   case pos =>
    have q3n:(x !=y)=false:=by simp[bne,q3]
    have hF:=Zg (show (1)=R by first|exact hR|(rw[←hR];simp[q1,q2,q3]));clear hR;go_enter func19,ntmps19;go_wp2_with fail;go_ret;exact⟨congrArg (fun z=>Zf (Zt .i64 z)) hF.out,ZW _ _⟩
theorem Gf(nw na nb vh vl x y w) :
  Kp Zr w 19 #[.agg #[.int .u8 20,.int .i64 nw,.int .i64 na,.int .i64 nb,.int .u64 vh,.int .u64 vl],.int .i64 x,.int .i64 y] (.int .i64 (if na==0&&(nb==0&&x==y) then 1 else 0)):=by
 intro y0;obtain⟨V,hV⟩:=Zv (plus w y0);rw[hV]at ⊢;clear hV;obtain⟨R,hR⟩:=Zv ((if na==0&&(nb==0&&x==y) then 1 else 0):Int);rw[hR];by_cases q1:(na==0)=true
 case neg =>
  have q1:(na==0)=false:=by simpa using q1
  have q1n:(na !=0)=true:=by simp[bne,q1]
  have hF:=Zg (show (0)=R by first|exact hR|(rw[←hR];simp[q1]));clear hR;go_enter func19,ntmps19;go_wp2_with fail;go_ret;exact⟨congrArg (fun z=>Zf (Zt .i64 z)) hF.out,ZW _ _⟩
 case pos =>
  have q1n:(na !=0)=false:=by simp[bne,q1]
  by_cases q2:(nb==0)=true
  case neg =>
   have q2:(nb==0)=false:=by simpa using q2
   have q2n:(nb !=0)=true:=by simp[bne,q2]
   have hF:=Zg (show (0)=R by first|exact hR|(rw[←hR];simp[q1,q2]));clear hR;go_enter func19,ntmps19;go_wp2_with fail;go_ret;exact⟨congrArg (fun z=>Zf (Zt .i64 z)) hF.out,ZW _ _⟩
  case pos =>
   have q2n:(nb !=0)=false:=by simp[bne,q2]
   by_cases q3:(x==y)=true
   case neg =>
    have q3:(x==y)=false:=by simpa using q3
    have q3n:(x !=y)=true:=by simp[bne,q3]
    have hF:=Zg (show (0)=R by first|exact hR|(rw[←hR];simp[q1,q2,q3]));clear hR;go_enter func19,ntmps19;go_wp2_with fail;go_ret;exact⟨congrArg (fun z=>Zf (Zt .i64 z)) hF.out,ZW _ _⟩
   case pos =>
    have q3n:(x !=y)=false:=by simp[bne,q3]
    have hF:=Zg (show (1)=R by first|exact hR|(rw[←hR];simp[q1,q2,q3]));clear hR;go_enter func19,ntmps19;go_wp2_with fail;go_ret;exact⟨congrArg (fun z=>Zf (Zt .i64 z)) hF.out,ZW _ _⟩
theorem H5(nw na nb vh vl x y)(op:Int)(w)(ho:op<1) :
  Kp Zr w 19 #[.agg #[.int .u8 op,.int .i64 nw,.int .i64 na,.int .i64 nb,.int .u64 vh,.int .u64 vl],.int .i64 x,.int .i64 y] (.int .i64 (0)):=by
 intro y0;have m10:(op==10)=false:=by rw[beq_eq_false_iff_ne];omega
 have m18:(op==18)=false:=by rw[beq_eq_false_iff_ne];omega
 have m19:(op==19)=false:=by rw[beq_eq_false_iff_ne];omega
 have m20:(op==20)=false:=by rw[beq_eq_false_iff_ne];omega
 have r1:¬11≤op:=by omega
 have r2:decide (11≤op)=false:=decide_eq_false r1;obtain⟨V,hV⟩:=Zv (plus w y0);rw[hV]at ⊢;clear hV;obtain⟨R,hR⟩:=Zv ((0):Int);rw[hR];by_cases q1:(na==0)=true
 case neg =>
  have q1:(na==0)=false:=by simpa using q1
  have q1n:(na !=0)=true:=by simp[bne,q1]
  have hF:=Zg (show (0)=R by first|exact hR|(rw[←hR];simp[q1]));clear hR;go_enter func19,ntmps19;go_wp2_with fail;go_ret;exact⟨congrArg (fun z=>Zf (Zt .i64 z)) hF.out,ZW _ _⟩
 case pos =>
  have q1n:(na !=0)=false:=by simp[bne,q1]
  by_cases q2:(nb==0)=true
  case neg =>
   have q2:(nb==0)=false:=by simpa using q2
   have q2n:(nb !=0)=true:=by simp[bne,q2]
   have hF:=Zg (show (0)=R by first|exact hR|(rw[←hR];simp[q1,q2]));clear hR;go_enter func19,ntmps19;go_wp2_with fail;go_ret;exact⟨congrArg (fun z=>Zf (Zt .i64 z)) hF.out,ZW _ _⟩
  case pos =>
   have q2n:(nb !=0)=false:=by simp[bne,q2]
   by_cases q3:(x==y)=true
   case neg =>
    have q3:(x==y)=false:=by simpa using q3
    have q3n:(x !=y)=true:=by simp[bne,q3]
    have hF:=Zg (show (0)=R by first|exact hR|(rw[←hR];simp[q1,q2,q3]));clear hR;go_enter func19,ntmps19;go_wp2_with fail;go_ret;exact⟨congrArg (fun z=>Zf (Zt .i64 z)) hF.out,ZW _ _⟩
   case pos =>
    have q3n:(x !=y)=false:=by simp[bne,q3]
    have hF:=Zg (show (0)=R by first|exact hR|(rw[←hR];simp[q1,q2,q3]));clear hR;go_enter func19,ntmps19;go_wp2_with fail;go_ret;exact⟨congrArg (fun z=>Zf (Zt .i64 z)) hF.out,ZW _ _⟩
theorem H6(nw na nb vh vl x y)(op:Int)(w)(ho:20<op) :
  Kp Zr w 19 #[.agg #[.int .u8 op,.int .i64 nw,.int .i64 na,.int .i64 nb,.int .u64 vh,.int .u64 vl],.int .i64 x,.int .i64 y] (.int .i64 (0)):=by
 intro y0;have m10:(op==10)=false:=by rw[beq_eq_false_iff_ne];omega
 have m18:(op==18)=false:=by rw[beq_eq_false_iff_ne];omega
 have m19:(op==19)=false:=by rw[beq_eq_false_iff_ne];omega
 have m20:(op==20)=false:=by rw[beq_eq_false_iff_ne];omega
 have r1:11≤op:=by omega
 have r2:decide (11≤op)=true:=decide_eq_true r1;have r3:¬op≤17:=by omega
 have r4:decide (op≤17)=false:=decide_eq_false r3;obtain⟨V,hV⟩:=Zv (plus w y0);rw[hV]at ⊢;clear hV;obtain⟨R,hR⟩:=Zv ((0):Int);rw[hR];by_cases q1:(na==0)=true
 case neg =>
  have q1:(na==0)=false:=by simpa using q1
  have q1n:(na !=0)=true:=by simp[bne,q1]
  have hF:=Zg (show (0)=R by first|exact hR|(rw[←hR];simp[q1]));clear hR;go_enter func19,ntmps19;go_wp2_with fail;go_ret;exact⟨congrArg (fun z=>Zf (Zt .i64 z)) hF.out,ZW _ _⟩
 case pos =>
  have q1n:(na !=0)=false:=by simp[bne,q1]
  by_cases q2:(nb==0)=true
  case neg =>
   have q2:(nb==0)=false:=by simpa using q2
   have q2n:(nb !=0)=true:=by simp[bne,q2]
   have hF:=Zg (show (0)=R by first|exact hR|(rw[←hR];simp[q1,q2]));clear hR;go_enter func19,ntmps19;go_wp2_with fail;go_ret;exact⟨congrArg (fun z=>Zf (Zt .i64 z)) hF.out,ZW _ _⟩
  case pos =>
   have q2n:(nb !=0)=false:=by simp[bne,q2]
   by_cases q3:(x==y)=true
   case neg =>
    have q3:(x==y)=false:=by simpa using q3
    have q3n:(x !=y)=true:=by simp[bne,q3]
    have hF:=Zg (show (0)=R by first|exact hR|(rw[←hR];simp[q1,q2,q3]));clear hR;go_enter func19,ntmps19;go_wp2_with fail;go_ret;exact⟨congrArg (fun z=>Zf (Zt .i64 z)) hF.out,ZW _ _⟩
   case pos =>
    have q3n:(x !=y)=false:=by simp[bne,q3]
    have hF:=Zg (show (0)=R by first|exact hR|(rw[←hR];simp[q1,q2,q3]));clear hR;go_enter func19,ntmps19;go_wp2_with fail;go_ret;exact⟨congrArg (fun z=>Zf (Zt .i64 z)) hF.out,ZW _ _⟩
end Go.Proofs.YtheaknidbcbneaaGreat

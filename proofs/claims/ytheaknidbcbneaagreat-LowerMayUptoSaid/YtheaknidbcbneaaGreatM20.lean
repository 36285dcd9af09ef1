/-
  WHAT IS PROVED HERE: a part of the proof (made narrower and merged by program; the parts: Hc).
-/
import Derived.Test.YtheaknidbcbneaaGreatM4
import Derived.Test.YtheaknidbcbneaaGreatM19
import Derived.Test.YtheaknidbcbneaaGreatM5
import Derived.Test.YtheaknidbcbneaaGreatM18
set_option maxRecDepth 100000
set_option maxHeartbeats 8000000
set_option linter.all false
namespace Go.Proofs.YtheaknidbcbneaaGreat
open Go.RowKit Go.Proofs.Tryz
open Ending renaming returned→Zf
open Lib renaming hid→Zg
open Go.Proofs.Tryz renaming prog→Zr
open Value renaming bool→Zs
open Go.RowKit
def Nq(w:Int):Bool:=decide (1≤w)&&decide (w≤128)
theorem NV(a w) :
  Kp Zr w 170 #[.int .i64 a] (.bool (decide (1≤a)&&decide (a≤128))):=by
 intro y0;obtain⟨V,hV⟩:=Zv (plus w y0);rw[hV]at ⊢;clear hV;obtain⟨R,hR⟩:=Zv (decide (1≤a)&&decide (a≤128));rw[hR];by_cases q1:1≤a
 case neg =>
  have hF:=Zg (show (false)=R by first|exact hR|(rw[←hR];simp[q1]));clear hR;go_enter func170,ntmps170;go_wp2_with fail;go_ret;exact⟨congrArg (fun z=>Zf (Zs z)) hF.out,YD _⟩
 case pos =>
  by_cases q2:a≤128
  case neg =>
   have hF:=Zg (show (false)=R by first|exact hR|(rw[←hR];simp[q1,q2]));clear hR;go_enter func170,ntmps170;go_wp2_with fail;go_ret;exact⟨congrArg (fun z=>Zf (Zs z)) hF.out,YD _⟩
  case pos =>
   have hF:=Zg (show (true)=R by first|exact hR|(rw[←hR];simp[q1,q2]));clear hR;go_enter func170,ntmps170;go_wp2_with fail;go_ret;exact⟨congrArg (fun z=>Zf (Zs z)) hF.out,YD _⟩
theorem LZ(a0 a1 a2 s0 s1 w)(h0:Kp Zr w 170 #[.int .i64 a0] (.bool s0))(h1:Kp Zr w 32 #[.agg #[.int .u64 a1,.int .u64 a2],.int .i64 a0] (.bool s1)) :
  Kp Zr w 166 #[.agg #[.int .i64 a0,.int .u64 a1,.int .u64 a2]] (.bool ((a0==0)||(s0&&s1))):=by
 intro y0;have h0:=h0.up y0;have h1:=h1.up y0;obtain⟨V,hV⟩:=Zv (plus w y0);rw[hV]at h0 h1 ⊢;clear hV;obtain⟨R,hR⟩:=Zv ((a0==0)||(s0&&s1));rw[hR];by_cases q1:(a0==0)=true
 case neg =>
  have q1:(a0==0)=false:=by simpa using q1
  cases s0
  case false =>
   have hF:=Zg (show (false)=R by first|exact hR|(rw[←hR];simp[q1]));clear hR;clear h1;have h0:=Zg h0;go_enter func166,ntmps166;go_wp2_with fail;obtain⟨W,yy,hW,⟨z,hz⟩,cb0⟩:=Ya V _ 62;rw[hW];have c0_0:=cb0 0 _ rfl;have c0_1:=cb0 1 _ rfl;have c0_2:=cb0 2 _ rfl;have q0c:=Zg (Zy hz h0.out);have Zw:=Zg hz;clear hW hz cb0;refine (q0c.out _).mono ?_;rintro r w' ⟨rfl,x1,rfl⟩;go_wp2_with fail;go_ret;exact⟨congrArg (fun z=>Zf (Zs z)) hF.out,by rw[Zw.out,Zx];exact⟨_,rfl⟩⟩
  case true =>
   cases s1
   case false =>
    have hF:=Zg (show (false)=R by first|exact hR|(rw[←hR];simp[q1]));clear hR;have h0:=Zg h0;have h1:=Zg h1;go_enter func166,ntmps166;go_wp2_with fail;obtain⟨W,yy,hW,⟨z,hz⟩,cb0⟩:=Ya V _ 62;rw[hW];have c0_0:=cb0 0 _ rfl;have c0_1:=cb0 1 _ rfl;have c0_2:=cb0 2 _ rfl;have q0c:=Zg (Zy hz h0.out);have q1c:=Zg (Zy hz h1.out);have Zw:=Zg hz;clear hW hz cb0;refine (q0c.out _).mono ?_;rintro r w' ⟨rfl,x1,rfl⟩;go_wp2_with (first|(go_at_call 32;with_reducible refine (q1c.out _).mono ?_;rintro r w' ⟨rfl,x,rfl⟩));go_ret;exact⟨congrArg (fun z=>Zf (Zs z)) hF.out,by rw[Zw.out,Zx];exact⟨_,rfl⟩⟩
   case true =>
    have hF:=Zg (show (true)=R by first|exact hR|(rw[←hR];simp[q1]));clear hR;have h0:=Zg h0;have h1:=Zg h1;go_enter func166,ntmps166;go_wp2_with fail;obtain⟨W,yy,hW,⟨z,hz⟩,cb0⟩:=Ya V _ 62;rw[hW];have c0_0:=cb0 0 _ rfl;have c0_1:=cb0 1 _ rfl;have c0_2:=cb0 2 _ rfl;have q0c:=Zg (Zy hz h0.out);have q1c:=Zg (Zy hz h1.out);have Zw:=Zg hz;clear hW hz cb0;refine (q0c.out _).mono ?_;rintro r w' ⟨rfl,x1,rfl⟩;go_wp2_with (first|(go_at_call 32;with_reducible refine (q1c.out _).mono ?_;rintro r w' ⟨rfl,x,rfl⟩));go_ret;exact⟨congrArg (fun z=>Zf (Zs z)) hF.out,by rw[Zw.out,Zx];exact⟨_,rfl⟩⟩
 case pos =>
  have hF:=Zg (show (true)=R by first|exact hR|(rw[←hR];simp[q1]));clear hR;clear h0 h1;go_enter func166,ntmps166;go_wp2_with fail;go_ret;exact⟨congrArg (fun z=>Zf (Zs z)) hF.out,ZW _ _⟩
theorem L2(a0 a1 a2 is s0 w)(h0:Kp Zr w 166 #[.agg #[.int .i64 a0,.int .u64 a1,.int .u64 a2]] (.bool s0)) :
  Kp Zr w 161 #[.agg #[.int .i64 a0,.int .u64 a1,.int .u64 a2],.bool is] (.bool (if is then s0 else ((a0==0)&&((a1==0)&&(a2==0))))):=by
 intro y0;have h0:=h0.up y0;obtain⟨V,hV⟩:=Zv (plus w y0);rw[hV]at h0 ⊢;clear hV;obtain⟨R,hR⟩:=Zv (if is then s0 else ((a0==0)&&((a1==0)&&(a2==0))));rw[hR];by_cases q1:(is)=true
 case neg =>
  have q1:(is)=false:=by simpa using q1
  by_cases q2:(a0==0)=true
  case neg =>
   have q2:(a0==0)=false:=by simpa using q2
   have hF:=Zg (show (false)=R by first|exact hR|(rw[←hR];simp[q1,q2]));clear hR;clear h0;go_enter func161,ntmps161;go_wp2_with fail;go_ret;exact⟨congrArg (fun z=>Zf (Zs z)) hF.out,ZW _ _⟩
  case pos =>
   by_cases q3:(a1==0)=true
   case neg =>
    have q3:(a1==0)=false:=by simpa using q3
    have hF:=Zg (show (false)=R by first|exact hR|(rw[←hR];simp[q1,q2,q3]));clear hR;clear h0;go_enter func161,ntmps161;go_wp2_with fail;go_ret;exact⟨congrArg (fun z=>Zf (Zs z)) hF.out,ZW _ _⟩
   case pos =>
    by_cases q4:(a2==0)=true
    case neg =>
     have q4:(a2==0)=false:=by simpa using q4
     have hF:=Zg (show (false)=R by first|exact hR|(rw[←hR];simp[q1,q2,q3,q4]));clear hR;clear h0;go_enter func161,ntmps161;go_wp2_with fail;go_ret;exact⟨congrArg (fun z=>Zf (Zs z)) hF.out,ZW _ _⟩
    case pos =>
     have hF:=Zg (show (true)=R by first|exact hR|(rw[←hR];simp[q1,q2,q3,q4]));clear hR;clear h0;go_enter func161,ntmps161;go_wp2_with fail;go_ret;exact⟨congrArg (fun z=>Zf (Zs z)) hF.out,ZW _ _⟩
 case pos =>
  cases s0
  case false =>
   have hF:=Zg (show (false)=R by first|exact hR|(rw[←hR];simp[q1]));clear hR;have h0:=Zg h0;go_enter func161,ntmps161;go_wp2_with fail;obtain⟨W,yy,hW,⟨z,hz⟩,cb0⟩:=Ya V _ 62;rw[hW];have c0_0:=cb0 0 _ rfl;have c0_1:=cb0 1 _ rfl;have c0_2:=cb0 2 _ rfl;have q0c:=Zg (Zy hz h0.out);have Zw:=Zg hz;clear hW hz cb0;refine (q0c.out _).mono ?_;rintro r w' ⟨rfl,x1,rfl⟩;go_wp2_with fail;go_ret;exact⟨congrArg (fun z=>Zf (Zs z)) hF.out,by rw[Zw.out,Zx];exact⟨_,rfl⟩⟩
  case true =>
   have hF:=Zg (show (true)=R by first|exact hR|(rw[←hR];simp[q1]));clear hR;have h0:=Zg h0;go_enter func161,ntmps161;go_wp2_with fail;obtain⟨W,yy,hW,⟨z,hz⟩,cb0⟩:=Ya V _ 62;rw[hW];have c0_0:=cb0 0 _ rfl;have c0_1:=cb0 1 _ rfl;have c0_2:=cb0 2 _ rfl;have q0c:=Zg (Zy hz h0.out);have Zw:=Zg hz;clear hW hz cb0;refine (q0c.out _).mono ?_;rintro r w' ⟨rfl,x1,rfl⟩;go_wp2_with fail;go_ret;exact⟨congrArg (fun z=>Zf (Zs z)) hF.out,by rw[Zw.out,Zx];exact⟨_,rfl⟩⟩
theorem Ij(s p s0 w)(h0:Kp Zr w 167 #[.string s] (.bool s0)) :
  Kp Zr w 162 #[.string s,.int .u8 p] (.bool (if s.toList==[] then p !=1 else ((p !=0)&&s0))):=by
 intro y0;have h0:=h0.up y0;obtain⟨V,hV⟩:=Zv (plus w y0);rw[hV]at h0 ⊢;clear hV;obtain⟨R,hR⟩:=Zv (if s.toList==[] then p !=1 else ((p !=0)&&s0));rw[hR];by_cases q1:(s.toList==[])=true
 case neg =>
  have q1:(s.toList==[])=false:=by simpa using q1
  by_cases q2:(p !=0)=true
  case neg =>
   have q2:(p !=0)=false:=by simpa using q2
   have hF:=Zg (show (false)=R by first|exact hR|(rw[←hR];simp[q1,q2]));clear hR;clear h0;go_enter func162,ntmps162;go_wp2_with fail;go_ret;exact⟨congrArg (fun z=>Zf (Zs z)) hF.out,YD _⟩
  case pos =>
   cases s0
   case false =>
    have hF:=Zg (show (false)=R by first|exact hR|(rw[←hR];simp[q1,q2]));clear hR;have h0:=Zg h0;go_enter func162,ntmps162;go_wp2_with fail;have q0c:=Zg h0.out.pure;refine (YN h0.out).mono ?_;rintro r w' ⟨rfl,x1,rfl⟩;go_wp2_with fail;go_ret;exact⟨congrArg (fun z=>Zf (Zs z)) hF.out,_,rfl⟩
   case true =>
    have hF:=Zg (show (true)=R by first|exact hR|(rw[←hR];simp[q1,q2]));clear hR;have h0:=Zg h0;go_enter func162,ntmps162;go_wp2_with fail;have q0c:=Zg h0.out.pure;refine (YN h0.out).mono ?_;rintro r w' ⟨rfl,x1,rfl⟩;go_wp2_with fail;go_ret;exact⟨congrArg (fun z=>Zf (Zs z)) hF.out,_,rfl⟩
 case pos =>
  by_cases q3:(p !=1)=true
  case neg =>
   have q3:(p !=1)=false:=by simpa using q3
   have hF:=Zg (show (false)=R by first|exact hR|(rw[←hR];simp[q1,q3]));clear hR;clear h0;go_enter func162,ntmps162;go_wp2_with fail;go_ret;exact⟨congrArg (fun z=>Zf (Zs z)) hF.out,YD _⟩
  case pos =>
   have hF:=Zg (show (true)=R by first|exact hR|(rw[←hR];simp[q1,q3]));clear hR;clear h0;go_enter func162,ntmps162;go_wp2_with fail;go_ret;exact⟨congrArg (fun z=>Zf (Zs z)) hF.out,YD _⟩
theorem G0(a b is w) :
  Kp Zr w 163 #[.int .i64 a,.int .i64 b,.bool is] (.bool (if is then (decide (0≤b)&&(decide (b≤a)&&decide (a<128))) else ((a==0)&&(b==0)))):=by
 intro y0;obtain⟨V,hV⟩:=Zv (plus w y0);rw[hV]at ⊢;clear hV;obtain⟨R,hR⟩:=Zv (if is then (decide (0≤b)&&(decide (b≤a)&&decide (a<128))) else ((a==0)&&(b==0)));rw[hR];by_cases q1:(is)=true
 case neg =>
  have q1:(is)=false:=by simpa using q1
  by_cases q2:(a==0)=true
  case neg =>
   have q2:(a==0)=false:=by simpa using q2
   have hF:=Zg (show (false)=R by first|exact hR|(rw[←hR];simp[q1,q2]));clear hR;go_enter func163,ntmps163;go_wp2_with fail;go_ret;exact⟨congrArg (fun z=>Zf (Zs z)) hF.out,YD _⟩
  case pos =>
   by_cases q3:(b==0)=true
   case neg =>
    have q3:(b==0)=false:=by simpa using q3
    have hF:=Zg (show (false)=R by first|exact hR|(rw[←hR];simp[q1,q2,q3]));clear hR;go_enter func163,ntmps163;go_wp2_with fail;go_ret;exact⟨congrArg (fun z=>Zf (Zs z)) hF.out,YD _⟩
   case pos =>
    have hF:=Zg (show (true)=R by first|exact hR|(rw[←hR];simp[q1,q2,q3]));clear hR;go_enter func163,ntmps163;go_wp2_with fail;go_ret;exact⟨congrArg (fun z=>Zf (Zs z)) hF.out,YD _⟩
 case pos =>
  by_cases q4:0≤b
  case neg =>
   have hF:=Zg (show (false)=R by first|exact hR|(rw[←hR];simp[q1,q4]));clear hR;go_enter func163,ntmps163;go_wp2_with fail;go_ret;exact⟨congrArg (fun z=>Zf (Zs z)) hF.out,YD _⟩
  case pos =>
   by_cases q5:b≤a
   case neg =>
    have hF:=Zg (show (false)=R by first|exact hR|(rw[←hR];simp[q1,q4,q5]));clear hR;go_enter func163,ntmps163;go_wp2_with fail;go_ret;exact⟨congrArg (fun z=>Zf (Zs z)) hF.out,YD _⟩
   case pos =>
    by_cases q6:a<128
    case neg =>
     have hF:=Zg (show (false)=R by first|exact hR|(rw[←hR];simp[q1,q4,q5,q6]));clear hR;go_enter func163,ntmps163;go_wp2_with fail;go_ret;exact⟨congrArg (fun z=>Zf (Zs z)) hF.out,YD _⟩
    case pos =>
     have hF:=Zg (show (true)=R by first|exact hR|(rw[←hR];simp[q1,q4,q5,q6]));clear hR;go_enter func163,ntmps163;go_wp2_with fail;go_ret;exact⟨congrArg (fun z=>Zf (Zs z)) hF.out,YD _⟩
end Go.Proofs.YtheaknidbcbneaaGreat

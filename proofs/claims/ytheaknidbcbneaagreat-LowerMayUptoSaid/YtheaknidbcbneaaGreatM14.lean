/-
  WHAT IS PROVED HERE: a part of the proof (made narrower and merged by program; the parts: Lov Lof).
-/
import Derived.Test.YtheaknidbcbneaaGreatM7
import Derived.Test.YtheaknidbcbneaaGreatM13
import Derived.Test.YtheaknidbcbneaaGreatM4
import Derived.Test.YtheaknidbcbneaaGreatM3
set_option maxRecDepth 100000
set_option maxHeartbeats 8000000
set_option linter.all false
namespace Go.Proofs.YtheaknidbcbneaaGreat
open Go.RowKit Go.Proofs.Tryz
open Bool renaming true_and→Ze
open Ending renaming returned→Zf
open Lib renaming hid→Zg
open List renaming drop_of_length_le→Zh,getElem?_eq_some_iff→Zj
open Nat renaming le_refl→Zp,zero_le→Zq
open Go.Proofs.Tryz renaming prog→Zr
open Value renaming bool→Zs,int→Zt
open Go.RowKit
theorem Jb(q0p q0n q0c q1p q1n q1c q2p q2n q2c q3p q3n q3c q4p q4n q4c q5p q5n q5c q6p q6n q6c q7p q7n q7c q8p q8n q8c q9p q9n q9c q10p q10n q10c q11p q11n q11c)(mr:Nat)(n cp cn cc r s0 w)(h0:Kp Zr w 16 #[.agg #[.slice q0p q0n q0c,.slice q1p q1n q1c,.slice q2p q2n q2c,.slice q3p q3n q3c,.slice q4p q4n q4c,.slice q5p q5n q5c,.slice q6p q6n q6c,.slice q7p q7n q7c,.slice q8p q8n q8c,.slice q9p q9n q9c,.slice q10p q10n q10c,.slice q11p q11n q11c,.map (some mr)],.int .i64 (-1),.slice cp cn cc] (.tuple #[.int .i64 r,.bool s0])) :
  Kp Zr w 80 #[.agg #[.slice q0p q0n q0c,.slice q1p q1n q1c,.slice q2p q2n q2c,.slice q3p q3n q3c,.slice q4p q4n q4c,.slice q5p q5n q5c,.slice q6p q6n q6c,.slice q7p q7n q7c,.slice q8p q8n q8c,.slice q9p q9n q9c,.slice q10p q10n q10c,.slice q11p q11n q11c,.map (some mr)],.int .i64 n,.slice cp cn cc] (.bool (s0)):=by
 intro y0;have h0:=h0.up y0;obtain⟨V,hV⟩:=Zv (plus w y0);rw[hV]at h0 ⊢;clear hV;obtain⟨R,hR⟩:=Zv (s0);rw[hR];have hF:=Zg (show (s0)=R by first|exact hR|(rw[←hR];simp));clear hR;have h0:=Zg h0;go_enter func80,ntmps80;go_wp2_with fail;obtain⟨W,yy,hW,⟨z,hz⟩,cb0⟩:=Ya V _ 82;rw[hW];have c0_0:=cb0 0 _ rfl;have c0_1:=cb0 1 _ rfl;have c0_2:=cb0 2 _ rfl;have c0_3:=cb0 3 _ rfl;have c0_4:=cb0 4 _ rfl;have c0_5:=cb0 5 _ rfl;have c0_6:=cb0 6 _ rfl;have c0_7:=cb0 7 _ rfl;have c0_8:=cb0 8 _ rfl;have c0_9:=cb0 9 _ rfl;have c0_10:=cb0 10 _ rfl;have c0_11:=cb0 11 _ rfl;have c0_12:=cb0 12 _ rfl;have q0c:=Zg (Zy hz h0.out);have Zw:=Zg hz;clear hW hz cb0;refine (q0c.out _).mono ?_;rintro r w' ⟨rfl,x1,rfl⟩;go_wp2_with fail;go_ret;exact⟨congrArg (fun z=>Zf (Zs z)) hF.out,by rw[Zw.out,Zx];exact⟨_,rfl⟩⟩
theorem L9(q0p q0n q0c q1p q1n q1c q2p q2n q2c q3p q3n q3c q4p q4n q4c q5p q5n q5c q6p q6n q6c q7p q7n q7c q8p q8n q8c q9p q9n q9c q10p q10n q10c q11p q11n q11c)(mr:Nat)(n pp pn pc bp bn bc s0 s1 w)(h0:Kp Zr w 44 #[.slice pp pn pc,.int .i64 0,.int .i64 8,.func (.func 45) #[] #[]] (.bool s0))(h1:Kp Zr w 53 #[.agg #[.slice q0p q0n q0c,.slice q1p q1n q1c,.slice q2p q2n q2c,.slice q3p q3n q3c,.slice q4p q4n q4c,.slice q5p q5n q5c,.slice q6p q6n q6c,.slice q7p q7n q7c,.slice q8p q8n q8c,.slice q9p q9n q9c,.slice q10p q10n q10c,.slice q11p q11n q11c,.map (some mr)],.int .i64 n,.slice bp bn bc] (.bool s1)) :
  Kp Zr w 50 #[.agg #[.slice q0p q0n q0c,.slice q1p q1n q1c,.slice q2p q2n q2c,.slice q3p q3n q3c,.slice q4p q4n q4c,.slice q5p q5n q5c,.slice q6p q6n q6c,.slice q7p q7n q7c,.slice q8p q8n q8c,.slice q9p q9n q9c,.slice q10p q10n q10c,.slice q11p q11n q11c,.map (some mr)],.int .i64 n,.agg #[.slice pp pn pc,.slice bp bn bc]] (.bool (s0&&s1)):=by
 intro y0;have h0:=h0.up y0;have h1:=h1.up y0;obtain⟨V,hV⟩:=Zv (plus w y0);rw[hV]at h0 h1 ⊢;clear hV;obtain⟨R,hR⟩:=Zv (s0&&s1);rw[hR];cases s0
 case false =>
  have hF:=Zg (show (false)=R by first|exact hR|(rw[←hR];simp));clear hR;clear h1;have h0:=Zg h0;go_enter func50,ntmps50;go_wp2_with fail;obtain⟨W,yy,hW,⟨z,hz⟩,cb0,cb1⟩:=ZF V _ _ 82 54;rw[hW];have c0_0:=cb0 0 _ rfl;have c0_1:=cb0 1 _ rfl;have c0_2:=cb0 2 _ rfl;have c0_3:=cb0 3 _ rfl;have c0_4:=cb0 4 _ rfl;have c0_5:=cb0 5 _ rfl;have c0_6:=cb0 6 _ rfl;have c0_7:=cb0 7 _ rfl;have c0_8:=cb0 8 _ rfl;have c0_9:=cb0 9 _ rfl;have c0_10:=cb0 10 _ rfl;have c0_11:=cb0 11 _ rfl;have c0_12:=cb0 12 _ rfl;have c1_0:=cb1 0 _ rfl;have c1_1:=cb1 1 _ rfl;have q0c:=Zg (Zy hz h0.out);have Zw:=Zg hz;clear hW hz cb0 cb1;refine (q0c.out _).mono ?_;rintro r w' ⟨rfl,x1,rfl⟩;go_wp2_with fail;go_ret;exact⟨congrArg (fun z=>Zf (Zs z)) hF.out,by rw[Zw.out,Zx];exact⟨_,rfl⟩⟩
 case true =>
  cases s1
  case false =>
   have hF:=Zg (show (false)=R by first|exact hR|(rw[←hR];simp));clear hR;have h0:=Zg h0;have h1:=Zg h1;go_enter func50,ntmps50;go_wp2_with fail;obtain⟨W,yy,hW,⟨z,hz⟩,cb0,cb1⟩:=ZF V _ _ 82 54;rw[hW];have c0_0:=cb0 0 _ rfl;have c0_1:=cb0 1 _ rfl;have c0_2:=cb0 2 _ rfl;have c0_3:=cb0 3 _ rfl;have c0_4:=cb0 4 _ rfl;have c0_5:=cb0 5 _ rfl;have c0_6:=cb0 6 _ rfl;have c0_7:=cb0 7 _ rfl;have c0_8:=cb0 8 _ rfl;have c0_9:=cb0 9 _ rfl;have c0_10:=cb0 10 _ rfl;have c0_11:=cb0 11 _ rfl;have c0_12:=cb0 12 _ rfl;have c1_0:=cb1 0 _ rfl;have c1_1:=cb1 1 _ rfl;have q0c:=Zg (Zy hz h0.out);have q1c:=Zg (Zy hz h1.out);have Zw:=Zg hz;clear hW hz cb0 cb1;refine (q0c.out _).mono ?_;rintro r w' ⟨rfl,x1,rfl⟩;go_wp2_with (first|(go_at_call 53;with_reducible refine (q1c.out _).mono ?_;rintro r w' ⟨rfl,x,rfl⟩));go_ret;exact⟨congrArg (fun z=>Zf (Zs z)) hF.out,by rw[Zw.out,Zx];exact⟨_,rfl⟩⟩
  case true =>
   have hF:=Zg (show (true)=R by first|exact hR|(rw[←hR];simp));clear hR;have h0:=Zg h0;have h1:=Zg h1;go_enter func50,ntmps50;go_wp2_with fail;obtain⟨W,yy,hW,⟨z,hz⟩,cb0,cb1⟩:=ZF V _ _ 82 54;rw[hW];have c0_0:=cb0 0 _ rfl;have c0_1:=cb0 1 _ rfl;have c0_2:=cb0 2 _ rfl;have c0_3:=cb0 3 _ rfl;have c0_4:=cb0 4 _ rfl;have c0_5:=cb0 5 _ rfl;have c0_6:=cb0 6 _ rfl;have c0_7:=cb0 7 _ rfl;have c0_8:=cb0 8 _ rfl;have c0_9:=cb0 9 _ rfl;have c0_10:=cb0 10 _ rfl;have c0_11:=cb0 11 _ rfl;have c0_12:=cb0 12 _ rfl;have c1_0:=cb1 0 _ rfl;have c1_1:=cb1 1 _ rfl;have q0c:=Zg (Zy hz h0.out);have q1c:=Zg (Zy hz h1.out);have Zw:=Zg hz;clear hW hz cb0 cb1;refine (q0c.out _).mono ?_;rintro r w' ⟨rfl,x1,rfl⟩;go_wp2_with (first|(go_at_call 53;with_reducible refine (q1c.out _).mono ?_;rintro r w' ⟨rfl,x,rfl⟩));go_ret;exact⟨congrArg (fun z=>Zf (Zs z)) hF.out,by rw[Zw.out,Zx];exact⟨_,rfl⟩⟩
theorem JZ(q0p q0n q0c q1p q1n q1c q2p q2n q2c q3p q3n q3c q4p q4n q4c q5p q5n q5c q6p q6n q6c q7p q7n q7c q8p q8n q8c q9p q9n q9c q10p q10n q10c q11p q11n q11c)(mr:Nat)(act ia ib ep en ec it r s0 w)(h0:Kp Zr w 16 #[.agg #[.slice q0p q0n q0c,.slice q1p q1n q1c,.slice q2p q2n q2c,.slice q3p q3n q3c,.slice q4p q4n q4c,.slice q5p q5n q5c,.slice q6p q6n q6c,.slice q7p q7n q7c,.slice q8p q8n q8c,.slice q9p q9n q9c,.slice q10p q10n q10c,.slice q11p q11n q11c,.map (some mr)],.int .i64 act,.slice ep en ec] (.tuple #[.int .i64 r,.bool s0])) :
  Kp Zr w 97 #[.agg #[.slice q0p q0n q0c,.slice q1p q1n q1c,.slice q2p q2n q2c,.slice q3p q3n q3c,.slice q4p q4n q4c,.slice q5p q5n q5c,.slice q6p q6n q6c,.slice q7p q7n q7c,.slice q8p q8n q8c,.slice q9p q9n q9c,.slice q10p q10n q10c,.slice q11p q11n q11c,.map (some mr)],.int .i64 act,.agg #[.int .u8 5,.int .i64 ia,.int .i64 ib,.slice ep en ec,.int .i64 it]] (.bool (s0&&(r==9))):=by
 intro y0;have h0:=h0.up y0;obtain⟨V,hV⟩:=Zv (plus w y0);rw[hV]at h0 ⊢;clear hV;obtain⟨R,hR⟩:=Zv (s0&&(r==9));rw[hR];by_cases q1:(s0)=true
 case neg =>
  have q1:(s0)=false:=by simpa using q1
  have hF:=Zg (show (false)=R by first|exact hR|(rw[←hR];simp[q1]));clear hR;have h0:=Zg h0;go_enter func97,ntmps97;go_wp2_with fail;obtain⟨W,yy,hW,⟨z,hz⟩,cb0,cb1⟩:=ZF V _ _ 82 99;rw[hW];have c0_0:=cb0 0 _ rfl;have c0_1:=cb0 1 _ rfl;have c0_2:=cb0 2 _ rfl;have c0_3:=cb0 3 _ rfl;have c0_4:=cb0 4 _ rfl;have c0_5:=cb0 5 _ rfl;have c0_6:=cb0 6 _ rfl;have c0_7:=cb0 7 _ rfl;have c0_8:=cb0 8 _ rfl;have c0_9:=cb0 9 _ rfl;have c0_10:=cb0 10 _ rfl;have c0_11:=cb0 11 _ rfl;have c0_12:=cb0 12 _ rfl;have c1_0:=cb1 0 _ rfl;have c1_1:=cb1 1 _ rfl;have c1_2:=cb1 2 _ rfl;have c1_3:=cb1 3 _ rfl;have c1_4:=cb1 4 _ rfl;have q0c:=Zg (Zy hz h0.out);have Zw:=Zg hz;clear hW hz cb0 cb1;refine (q0c.out _).mono ?_;rintro r w' ⟨rfl,x1,rfl⟩;go_wp2_with fail;go_ret;exact⟨congrArg (fun z=>Zf (Zs z)) hF.out,by rw[Zw.out,Zx];exact⟨_,rfl⟩⟩
 case pos =>
  by_cases q2:(r==9)=true
  case neg =>
   have q2:(r==9)=false:=by simpa using q2
   have hF:=Zg (show (false)=R by first|exact hR|(rw[←hR];simp[q1,q2]));clear hR;have h0:=Zg h0;go_enter func97,ntmps97;go_wp2_with fail;obtain⟨W,yy,hW,⟨z,hz⟩,cb0,cb1⟩:=ZF V _ _ 82 99;rw[hW];have c0_0:=cb0 0 _ rfl;have c0_1:=cb0 1 _ rfl;have c0_2:=cb0 2 _ rfl;have c0_3:=cb0 3 _ rfl;have c0_4:=cb0 4 _ rfl;have c0_5:=cb0 5 _ rfl;have c0_6:=cb0 6 _ rfl;have c0_7:=cb0 7 _ rfl;have c0_8:=cb0 8 _ rfl;have c0_9:=cb0 9 _ rfl;have c0_10:=cb0 10 _ rfl;have c0_11:=cb0 11 _ rfl;have c0_12:=cb0 12 _ rfl;have c1_0:=cb1 0 _ rfl;have c1_1:=cb1 1 _ rfl;have c1_2:=cb1 2 _ rfl;have c1_3:=cb1 3 _ rfl;have c1_4:=cb1 4 _ rfl;have q0c:=Zg (Zy hz h0.out);have Zw:=Zg hz;clear hW hz cb0 cb1;refine (q0c.out _).mono ?_;rintro r w' ⟨rfl,x1,rfl⟩;go_wp2_with fail;go_ret;exact⟨congrArg (fun z=>Zf (Zs z)) hF.out,by rw[Zw.out,Zx];exact⟨_,rfl⟩⟩
  case pos =>
   have hF:=Zg (show (true)=R by first|exact hR|(rw[←hR];simp[q1,q2]));clear hR;have h0:=Zg h0;go_enter func97,ntmps97;go_wp2_with fail;obtain⟨W,yy,hW,⟨z,hz⟩,cb0,cb1⟩:=ZF V _ _ 82 99;rw[hW];have c0_0:=cb0 0 _ rfl;have c0_1:=cb0 1 _ rfl;have c0_2:=cb0 2 _ rfl;have c0_3:=cb0 3 _ rfl;have c0_4:=cb0 4 _ rfl;have c0_5:=cb0 5 _ rfl;have c0_6:=cb0 6 _ rfl;have c0_7:=cb0 7 _ rfl;have c0_8:=cb0 8 _ rfl;have c0_9:=cb0 9 _ rfl;have c0_10:=cb0 10 _ rfl;have c0_11:=cb0 11 _ rfl;have c0_12:=cb0 12 _ rfl;have c1_0:=cb1 0 _ rfl;have c1_1:=cb1 1 _ rfl;have c1_2:=cb1 2 _ rfl;have c1_3:=cb1 3 _ rfl;have c1_4:=cb1 4 _ rfl;have q0c:=Zg (Zy hz h0.out);have Zw:=Zg hz;clear hW hz cb0 cb1;refine (q0c.out _).mono ?_;rintro r w' ⟨rfl,x1,rfl⟩;go_wp2_with fail;go_ret;exact⟨congrArg (fun z=>Zf (Zs z)) hF.out,by rw[Zw.out,Zx];exact⟨_,rfl⟩⟩
theorem J0(q0p q0n q0c q1p q1n q1c q2p q2n q2c q3p q3n q3c q4p q4n q4c q5p q5n q5c q6p q6n q6c q7p q7n q7c q8p q8n q8c q9p q9n q9c q10p q10n q10c q11p q11n q11c)(mr:Nat)(act ia ib ep en ec it r s0 w)(h0:Kp Zr w 16 #[.agg #[.slice q0p q0n q0c,.slice q1p q1n q1c,.slice q2p q2n q2c,.slice q3p q3n q3c,.slice q4p q4n q4c,.slice q5p q5n q5c,.slice q6p q6n q6c,.slice q7p q7n q7c,.slice q8p q8n q8c,.slice q9p q9n q9c,.slice q10p q10n q10c,.slice q11p q11n q11c,.map (some mr)],.int .i64 act,.slice ep en ec] (.tuple #[.int .i64 r,.bool s0])) :
  Kp Zr w 97 #[.agg #[.slice q0p q0n q0c,.slice q1p q1n q1c,.slice q2p q2n q2c,.slice q3p q3n q3c,.slice q4p q4n q4c,.slice q5p q5n q5c,.slice q6p q6n q6c,.slice q7p q7n q7c,.slice q8p q8n q8c,.slice q9p q9n q9c,.slice q10p q10n q10c,.slice q11p q11n q11c,.map (some mr)],.int .i64 act,.agg #[.int .u8 7,.int .i64 ia,.int .i64 ib,.slice ep en ec,.int .i64 it]] (.bool (s0&&(r==1))):=by
 intro y0;have h0:=h0.up y0;obtain⟨V,hV⟩:=Zv (plus w y0);rw[hV]at h0 ⊢;clear hV;obtain⟨R,hR⟩:=Zv (s0&&(r==1));rw[hR];by_cases q1:(s0)=true
 case neg =>
  have q1:(s0)=false:=by simpa using q1
  have hF:=Zg (show (false)=R by first|exact hR|(rw[←hR];simp[q1]));clear hR;have h0:=Zg h0;go_enter func97,ntmps97;go_wp2_with fail;obtain⟨W,yy,hW,⟨z,hz⟩,cb0,cb1⟩:=ZF V _ _ 82 99;rw[hW];have c0_0:=cb0 0 _ rfl;have c0_1:=cb0 1 _ rfl;have c0_2:=cb0 2 _ rfl;have c0_3:=cb0 3 _ rfl;have c0_4:=cb0 4 _ rfl;have c0_5:=cb0 5 _ rfl;have c0_6:=cb0 6 _ rfl;have c0_7:=cb0 7 _ rfl;have c0_8:=cb0 8 _ rfl;have c0_9:=cb0 9 _ rfl;have c0_10:=cb0 10 _ rfl;have c0_11:=cb0 11 _ rfl;have c0_12:=cb0 12 _ rfl;have c1_0:=cb1 0 _ rfl;have c1_1:=cb1 1 _ rfl;have c1_2:=cb1 2 _ rfl;have c1_3:=cb1 3 _ rfl;have c1_4:=cb1 4 _ rfl;have q0c:=Zg (Zy hz h0.out);have Zw:=Zg hz;clear hW hz cb0 cb1;refine (q0c.out _).mono ?_;rintro r w' ⟨rfl,x1,rfl⟩;go_wp2_with fail;go_ret;exact⟨congrArg (fun z=>Zf (Zs z)) hF.out,by rw[Zw.out,Zx];exact⟨_,rfl⟩⟩
 case pos =>
  by_cases q2:(r==1)=true
  case neg =>
   have q2:(r==1)=false:=by simpa using q2
   have hF:=Zg (show (false)=R by first|exact hR|(rw[←hR];simp[q1,q2]));clear hR;have h0:=Zg h0;go_enter func97,ntmps97;go_wp2_with fail;obtain⟨W,yy,hW,⟨z,hz⟩,cb0,cb1⟩:=ZF V _ _ 82 99;rw[hW];have c0_0:=cb0 0 _ rfl;have c0_1:=cb0 1 _ rfl;have c0_2:=cb0 2 _ rfl;have c0_3:=cb0 3 _ rfl;have c0_4:=cb0 4 _ rfl;have c0_5:=cb0 5 _ rfl;have c0_6:=cb0 6 _ rfl;have c0_7:=cb0 7 _ rfl;have c0_8:=cb0 8 _ rfl;have c0_9:=cb0 9 _ rfl;have c0_10:=cb0 10 _ rfl;have c0_11:=cb0 11 _ rfl;have c0_12:=cb0 12 _ rfl;have c1_0:=cb1 0 _ rfl;have c1_1:=cb1 1 _ rfl;have c1_2:=cb1 2 _ rfl;have c1_3:=cb1 3 _ rfl;have c1_4:=cb1 4 _ rfl;have q0c:=Zg (Zy hz h0.out);have Zw:=Zg hz;clear hW hz cb0 cb1;refine (q0c.out _).mono ?_;rintro r w' ⟨rfl,x1,rfl⟩;go_wp2_with fail;go_ret;exact⟨congrArg (fun z=>Zf (Zs z)) hF.out,by rw[Zw.out,Zx];exact⟨_,rfl⟩⟩
  case pos =>
   have hF:=Zg (show (true)=R by first|exact hR|(rw[←hR];simp[q1,q2]));clear hR;have h0:=Zg h0;go_enter func97,ntmps97;go_wp2_with fail;obtain⟨W,yy,hW,⟨z,hz⟩,cb0,cb1⟩:=ZF V _ _ 82 99;rw[hW];have c0_0:=cb0 0 _ rfl;have c0_1:=cb0 1 _ rfl;have c0_2:=cb0 2 _ rfl;have c0_3:=cb0 3 _ rfl;have c0_4:=cb0 4 _ rfl;have c0_5:=cb0 5 _ rfl;have c0_6:=cb0 6 _ rfl;have c0_7:=cb0 7 _ rfl;have c0_8:=cb0 8 _ rfl;have c0_9:=cb0 9 _ rfl;have c0_10:=cb0 10 _ rfl;have c0_11:=cb0 11 _ rfl;have c0_12:=cb0 12 _ rfl;have c1_0:=cb1 0 _ rfl;have c1_1:=cb1 1 _ rfl;have c1_2:=cb1 2 _ rfl;have c1_3:=cb1 3 _ rfl;have c1_4:=cb1 4 _ rfl;have q0c:=Zg (Zy hz h0.out);have Zw:=Zg hz;clear hW hz cb0 cb1;refine (q0c.out _).mono ?_;rintro r w' ⟨rfl,x1,rfl⟩;go_wp2_with fail;go_ret;exact⟨congrArg (fun z=>Zf (Zs z)) hF.out,by rw[Zw.out,Zx];exact⟨_,rfl⟩⟩
def ZU{α:Type}(f:Nat→α→Bool):Nat→List α→Bool
 | _,[]=>true
 | k,x :: l=>f k x&&ZU f (k+1) l
def ZM{α:Type}(lo hi:Int)(f:Nat→α→Bool)(l:List α):Bool:=decide (lo≤(l.length:Int))&&decide ((l.length:Int)≤hi)&&ZU f 0 l
theorem WK{α:Type}(f:Nat→α→Bool)(l:List α)(k:Nat)(x:α)(hx:l[k]?=some x):ZU f k (l.drop k)=(f k x&&ZU f (k+1) (l.drop (k+1))):=by
 obtain⟨h1,rfl⟩:=Zj.1 hx;rw[List.drop_eq_getElem_cons h1,ZU]
def OU(l:List Value):Prop:=∃(c0p:Option Addr) (c0n:Nat) (c0c:Nat) (c1p:Option Addr) (c1n:Nat) (c1c:Nat) (c2p:Option Addr) (c2n:Nat) (c2c:Nat) (c3:Int),l=[.slice c0p c0n c0c,.slice c1p c1n c1c,.slice c2p c2n c2c,.int .i64 c3]
def OP(l:List Value):Prop:=∃(c0p:Option Addr) (c0n:Nat) (c0c:Nat) (c1p:Option Addr) (c1n:Nat) (c1c:Nat),l=[.slice c0p c0n c0c,.slice c1p c1n c1c]
def OV(l:List Value):Prop:=∃(c0p:Option Addr) (c0n:Nat) (c0c:Nat) (c1p:Option Addr) (c1n:Nat) (c1c:Nat) (c2p:Option Addr) (c2n:Nat) (c2c:Nat) (c3:Int) (c4p:Option Addr) (c4n:Nat) (c4c:Nat),l=[.slice c0p c0n c0c,.slice c1p c1n c1c,.slice c2p c2n c2c,.int .i64 c3,.slice c4p c4n c4c]
def OQ(l:List Value):Prop:=∃(c0p:Option Addr) (c0n:Nat) (c0c:Nat) (c1:Int),l=[.slice c0p c0n c0c,.int .i64 c1]
def OT(l:List Value):Prop:=∃(c0:Int) (c1:Int) (c2:Int) (c3:Int),l=[.int .u64 c0,.int .u64 c1,.int .u64 c2,.int .u64 c3]
def OS(l:List Value):Prop:=∃(c0:Int) (c1:Int) (c2:Int) (c3p:Option Addr) (c3n:Nat) (c3c:Nat) (c4:Int),l=[.int .u8 c0,.int .i64 c1,.int .i64 c2,.slice c3p c3n c3c,.int .i64 c4]
theorem Ss(may:Nat→Int→Bool)(g:FuncId)(first caps:Array Value)(K:Int→Prop)(w:World)(A:Sl Int)(lo hi)(hA:A.In w 1 (Z8 .i64) K)(hl:A.l.length≤1048576)(Wb:∀args w,(callFunc g args).run Zr w=.ok (.enter g args) w)(hf:∀(i:Nat) (x:Int),A.l[i]?=some x→Kp Zr w g (first++(#[.int .i64 (i:Int),.int .i64 x]++caps)) (.bool (may i x))) :
  Kp Zr w 44 #[A.v,.int .i64 lo,.int .i64 hi,.func (.func g) first caps] (.bool (ZM lo hi may A.l)):=by
 intro y0;obtain⟨p,cap,l⟩:=A;simp only[Sl.v]at hl hf ⊢;obtain⟨n,hn⟩:=Zv l.length;have hA:=hA.row.plus y0;have hf:=fun i x hx=>((hf i x hx).up y0).pure;obtain⟨W,hW⟩:=Zv (plus w y0);rw[hW]at hA ⊢;simp only[hW]at hf;rw[hn]at hl;clear hW;by_cases h1:(n:Int)<lo
 case pos =>
  have hF:=Zg (show false=ZM lo hi may l by unfold ZM;rw[hn,decide_eq_false (show ¬lo≤(n:Int) by omega)];rfl);rw[hn];clear hA hl hn hf;go_enter func44,ntmps44;go_wp2;go_ret;exact⟨congrArg (fun z=>Zf (Zs z)) hF.out,_,(ZK W).symm⟩
 by_cases h2:hi<(n:Int)
 case pos =>
  have hF:=Zg (show false=ZM lo hi may l by unfold ZM;rw[hn,decide_eq_false (show ¬(n:Int)≤hi by omega)];simp);rw[hn];clear hA hl hn hf;go_enter func44,ntmps44;go_wp2;go_ret;exact⟨congrArg (fun z=>Zf (Zs z)) hF.out,_,(ZK W).symm⟩
 obtain⟨R,hR⟩:=Zv (ZM lo hi may l);have h0:ZU may 0 (l.drop 0)=R:=by rw[←hR];unfold ZM;rw[hn,decide_eq_true (show lo≤(n:Int) by omega),decide_eq_true (show (n:Int)≤hi by omega)];rfl
 rw[hn,hR];have ZR:=Zg hA;have ZJ:=Zg hn;have ZX:=Zg hl;have Yd:=Zg h0;have Yu:=Zg hf;clear hA hl hn hR h0 hf;go_enter func44,ntmps44;go_wp2;go_loopw [9,10,23] (fun _ _ iv wr=>∃k:Nat,k≤n∧iv=.int .i64 (k:Int)∧Hid (ZU may k (l.drop k)=R)∧∃y,wr=plus W y) (fun _ _ iv _=>n-(intOf iv).toNat)
 case atStart=>exact⟨0,Zq _,rfl,Yd,⟨#[],W.drawn⟩,(ZK W).symm⟩
 case round =>
  obtain⟨k,hk,rfl,hs,y,rfl⟩:=hrel;by_cases Zz:k<n
  ·obtain⟨a,ha⟩:=Z6 l k (by rw[ZJ.out];exact Zz)
   obtain⟨pa,rfl,hc⟩:=ZR.out k a ha;have q1:=Yu.out k a ha;have ZB:(may k a&&ZU may (k+1) (l.drop (k+1)))=R:=by rw[←WK may l k a ha];exact hs.out
   obtain⟨Z,hZ⟩:=Zv (may k a);rw[hZ]at q1 ZB;have d0:=fun y=>(hc.plus y).c0 _ rfl;simp only[Nat.mul_one]at d0;have q1':=Zg q1;have a6:=Zg (Yo k n Zz ZX.out);clear q1 hZ hc ha hs ;cases Z with
   | true =>
    have ZD:=Zg (show ZU may (k+1) (l.drop (k+1))=R by rw[←ZB,Ze]);clear ZB;go_wp2_with (refine (q1'.out _).mono ?_;rintro e w' ⟨rfl,x,rfl⟩);go_roundw
    case rel=>exact⟨k+1,Zz,congrArg (Zt .i64) a6.out,ZD,x,rfl⟩
    case measure=>exact YF k n Zz a6.out
   | false =>
    have ZD:=Zg (show false=R by rw[←ZB,Bool.false_and]);clear ZB;go_wp2_with (refine (q1'.out _).mono ?_;rintro e w' ⟨rfl,x,rfl⟩);go_ret;exact⟨congrArg (fun z=>Zf (Zs z)) ZD.out,x,rfl⟩
  ·obtain rfl:k=n:=by omega
   have ZD:=Zg (show true=R by
    rw[←hs.out,Zh (by rw[ZJ.out];exact Zp _)];rfl)
   clear hs Zz hk;go_wp2;go_ret;exact⟨congrArg (fun z=>Zf (Zs z)) ZD.out,y,rfl⟩
theorem MS(may:Nat→Int→Bool)(g:FuncId)(first caps:Array Value)(K:Int→Prop)(w:World)(A:Sl Int)(lo hi)(hA:A.In w 1 (Z8 .u8) K)(hl:A.l.length≤1048576)(Wb:∀args w,(callFunc g args).run Zr w=.ok (.enter g args) w)(hf:∀(i:Nat) (x:Int),A.l[i]?=some x→Kp Zr w g (first++(#[.int .i64 (i:Int),.int .u8 x]++caps)) (.bool (may i x))) :
  Kp Zr w 89 #[A.v,.int .i64 lo,.int .i64 hi,.func (.func g) first caps] (.bool (ZM lo hi may A.l)):=by
 intro y0;obtain⟨p,cap,l⟩:=A;simp only[Sl.v]at hl hf ⊢;obtain⟨n,hn⟩:=Zv l.length;have hA:=hA.row.plus y0;have hf:=fun i x hx=>((hf i x hx).up y0).pure;obtain⟨W,hW⟩:=Zv (plus w y0);rw[hW]at hA ⊢;simp only[hW]at hf;rw[hn]at hl;clear hW;by_cases h1:(n:Int)<lo
 case pos =>
  have hF:=Zg (show false=ZM lo hi may l by unfold ZM;rw[hn,decide_eq_false (show ¬lo≤(n:Int) by omega)];rfl);rw[hn];clear hA hl hn hf;go_enter func89,ntmps89;go_wp2;go_ret;exact⟨congrArg (fun z=>Zf (Zs z)) hF.out,_,(ZK W).symm⟩
 by_cases h2:hi<(n:Int)
 case pos =>
  have hF:=Zg (show false=ZM lo hi may l by unfold ZM;rw[hn,decide_eq_false (show ¬(n:Int)≤hi by omega)];simp);rw[hn];clear hA hl hn hf;go_enter func89,ntmps89;go_wp2;go_ret;exact⟨congrArg (fun z=>Zf (Zs z)) hF.out,_,(ZK W).symm⟩
 obtain⟨R,hR⟩:=Zv (ZM lo hi may l);have h0:ZU may 0 (l.drop 0)=R:=by rw[←hR];unfold ZM;rw[hn,decide_eq_true (show lo≤(n:Int) by omega),decide_eq_true (show (n:Int)≤hi by omega)];rfl
 rw[hn,hR];have ZR:=Zg hA;have ZJ:=Zg hn;have ZX:=Zg hl;have Yd:=Zg h0;have Yu:=Zg hf;clear hA hl hn hR h0 hf;go_enter func89,ntmps89;go_wp2;go_loopw [9,10,23] (fun _ _ iv wr=>∃k:Nat,k≤n∧iv=.int .i64 (k:Int)∧Hid (ZU may k (l.drop k)=R)∧∃y,wr=plus W y) (fun _ _ iv _=>n-(intOf iv).toNat)
 case atStart=>exact⟨0,Zq _,rfl,Yd,⟨#[],W.drawn⟩,(ZK W).symm⟩
 case round =>
  obtain⟨k,hk,rfl,hs,y,rfl⟩:=hrel;by_cases Zz:k<n
  ·obtain⟨a,ha⟩:=Z6 l k (by rw[ZJ.out];exact Zz)
   obtain⟨pa,rfl,hc⟩:=ZR.out k a ha;have q1:=Yu.out k a ha;have ZB:(may k a&&ZU may (k+1) (l.drop (k+1)))=R:=by rw[←WK may l k a ha];exact hs.out
   obtain⟨Z,hZ⟩:=Zv (may k a);rw[hZ]at q1 ZB;have d0:=fun y=>(hc.plus y).c0 _ rfl;simp only[Nat.mul_one]at d0;have q1':=Zg q1;have a6:=Zg (Yo k n Zz ZX.out);clear q1 hZ hc ha hs ;cases Z with
   | true =>
    have ZD:=Zg (show ZU may (k+1) (l.drop (k+1))=R by rw[←ZB,Ze]);clear ZB;go_wp2_with (refine (q1'.out _).mono ?_;rintro e w' ⟨rfl,x,rfl⟩);go_roundw
    case rel=>exact⟨k+1,Zz,congrArg (Zt .i64) a6.out,ZD,x,rfl⟩
    case measure=>exact YF k n Zz a6.out
   | false =>
    have ZD:=Zg (show false=R by rw[←ZB,Bool.false_and]);clear ZB;go_wp2_with (refine (q1'.out _).mono ?_;rintro e w' ⟨rfl,x,rfl⟩);go_ret;exact⟨congrArg (fun z=>Zf (Zs z)) ZD.out,x,rfl⟩
  ·obtain rfl:k=n:=by omega
   have ZD:=Zg (show true=R by
    rw[←hs.out,Zh (by rw[ZJ.out];exact Zp _)];rfl)
   clear hs Zz hk;go_wp2;go_ret;exact⟨congrArg (fun z=>Zf (Zs z)) ZD.out,y,rfl⟩
theorem Pc(may:Nat→(Sl Nd)→Bool)(g:FuncId)(first caps:Array Value)(K:(Sl Nd)→Prop)(w:World)(A:Sl (Sl Nd))(lo hi)(hA:A.In w 1 YY K)(hl:A.l.length≤1048576)(Wb:∀args w,(callFunc g args).run Zr w=.ok (.enter g args) w)(hf:∀(i:Nat) (x:(Sl Nd)),A.l[i]?=some x→Kp Zr w g (first++(#[.int .i64 (i:Int),x.v]++caps)) (.bool (may i x))) :
  Kp Zr w 79 #[A.v,.int .i64 lo,.int .i64 hi,.func (.func g) first caps] (.bool (ZM lo hi may A.l)):=by
 intro y0;obtain⟨p,cap,l⟩:=A;simp only[Sl.v]at hl hf ⊢;obtain⟨n,hn⟩:=Zv l.length;have hA:=hA.row.plus y0;have hf:=fun i x hx=>((hf i x hx).up y0).pure;obtain⟨W,hW⟩:=Zv (plus w y0);rw[hW]at hA ⊢;simp only[hW]at hf;rw[hn]at hl;clear hW;by_cases h1:(n:Int)<lo
 case pos =>
  have hF:=Zg (show false=ZM lo hi may l by unfold ZM;rw[hn,decide_eq_false (show ¬lo≤(n:Int) by omega)];rfl);rw[hn];clear hA hl hn hf;go_enter func79,ntmps79;go_wp2;go_ret;exact⟨congrArg (fun z=>Zf (Zs z)) hF.out,_,(ZK W).symm⟩
 by_cases h2:hi<(n:Int)
 case pos =>
  have hF:=Zg (show false=ZM lo hi may l by unfold ZM;rw[hn,decide_eq_false (show ¬(n:Int)≤hi by omega)];simp);rw[hn];clear hA hl hn hf;go_enter func79,ntmps79;go_wp2;go_ret;exact⟨congrArg (fun z=>Zf (Zs z)) hF.out,_,(ZK W).symm⟩
 obtain⟨R,hR⟩:=Zv (ZM lo hi may l);have h0:ZU may 0 (l.drop 0)=R:=by rw[←hR];unfold ZM;rw[hn,decide_eq_true (show lo≤(n:Int) by omega),decide_eq_true (show (n:Int)≤hi by omega)];rfl
 rw[hn,hR];have ZR:=Zg hA;have ZJ:=Zg hn;have ZX:=Zg hl;have Yd:=Zg h0;have Yu:=Zg hf;clear hA hl hn hR h0 hf;go_enter func79,ntmps79;go_wp2;go_loopw [9,10,23] (fun _ _ iv wr=>∃k:Nat,k≤n∧iv=.int .i64 (k:Int)∧Hid (ZU may k (l.drop k)=R)∧∃y,wr=plus W y) (fun _ _ iv _=>n-(intOf iv).toNat)
 case atStart=>exact⟨0,Zq _,rfl,Yd,⟨#[],W.drawn⟩,(ZK W).symm⟩
 case round =>
  obtain⟨k,hk,rfl,hs,y,rfl⟩:=hrel;by_cases Zz:k<n
  ·obtain⟨a,ha⟩:=Z6 l k (by rw[ZJ.out];exact Zz)
   obtain⟨pa,rfl,hc⟩:=ZR.out k a ha;have q1:=Yu.out k a ha;have ZB:(may k a&&ZU may (k+1) (l.drop (k+1)))=R:=by rw[←WK may l k a ha];exact hs.out
   obtain⟨Z,hZ⟩:=Zv (may k a);rw[hZ]at q1 ZB;have d0:=fun y=>(hc.plus y).c0 _ rfl;simp only[Nat.mul_one]at d0;have q1':=Zg q1;have a6:=Zg (Yo k n Zz ZX.out);clear q1 hZ hc ha hs ;cases Z with
   | true =>
    have ZD:=Zg (show ZU may (k+1) (l.drop (k+1))=R by rw[←ZB,Ze]);clear ZB;go_wp2_with (refine (q1'.out _).mono ?_;rintro e w' ⟨rfl,x,rfl⟩);go_roundw
    case rel=>exact⟨k+1,Zz,congrArg (Zt .i64) a6.out,ZD,x,rfl⟩
    case measure=>exact YF k n Zz a6.out
   | false =>
    have ZD:=Zg (show false=R by rw[←ZB,Bool.false_and]);clear ZB;go_wp2_with (refine (q1'.out _).mono ?_;rintro e w' ⟨rfl,x,rfl⟩);go_ret;exact⟨congrArg (fun z=>Zf (Zs z)) ZD.out,x,rfl⟩
  ·obtain rfl:k=n:=by omega
   have ZD:=Zg (show true=R by
    rw[←hs.out,Zh (by rw[ZJ.out];exact Zp _)];rfl)
   clear hs Zz hk;go_wp2;go_ret;exact⟨congrArg (fun z=>Zf (Zs z)) ZD.out,y,rfl⟩
theorem MO(may:Nat→(Sl Int)→Bool)(g:FuncId)(first caps:Array Value)(K:(Sl Int)→Prop)(w:World)(A:Sl (Sl Int))(lo hi)(hA:A.In w 1 YY K)(hl:A.l.length≤1048576)(Wb:∀args w,(callFunc g args).run Zr w=.ok (.enter g args) w)(hf:∀(i:Nat) (x:(Sl Int)),A.l[i]?=some x→Kp Zr w g (first++(#[.int .i64 (i:Int),x.v]++caps)) (.bool (may i x))) :
  Kp Zr w 42 #[A.v,.int .i64 lo,.int .i64 hi,.func (.func g) first caps] (.bool (ZM lo hi may A.l)):=by
 intro y0;obtain⟨p,cap,l⟩:=A;simp only[Sl.v]at hl hf ⊢;obtain⟨n,hn⟩:=Zv l.length;have hA:=hA.row.plus y0;have hf:=fun i x hx=>((hf i x hx).up y0).pure;obtain⟨W,hW⟩:=Zv (plus w y0);rw[hW]at hA ⊢;simp only[hW]at hf;rw[hn]at hl;clear hW;by_cases h1:(n:Int)<lo
 case pos =>
  have hF:=Zg (show false=ZM lo hi may l by unfold ZM;rw[hn,decide_eq_false (show ¬lo≤(n:Int) by omega)];rfl);rw[hn];clear hA hl hn hf;go_enter func42,ntmps42;go_wp2;go_ret;exact⟨congrArg (fun z=>Zf (Zs z)) hF.out,_,(ZK W).symm⟩
 by_cases h2:hi<(n:Int)
 case pos =>
  have hF:=Zg (show false=ZM lo hi may l by unfold ZM;rw[hn,decide_eq_false (show ¬(n:Int)≤hi by omega)];simp);rw[hn];clear hA hl hn hf;go_enter func42,ntmps42;go_wp2;go_ret;exact⟨congrArg (fun z=>Zf (Zs z)) hF.out,_,(ZK W).symm⟩
 obtain⟨R,hR⟩:=Zv (ZM lo hi may l);have h0:ZU may 0 (l.drop 0)=R:=by rw[←hR];unfold ZM;rw[hn,decide_eq_true (show lo≤(n:Int) by omega),decide_eq_true (show (n:Int)≤hi by omega)];rfl
 rw[hn,hR];have ZR:=Zg hA;have ZJ:=Zg hn;have ZX:=Zg hl;have Yd:=Zg h0;have Yu:=Zg hf;clear hA hl hn hR h0 hf;go_enter func42,ntmps42;go_wp2;go_loopw [9,10,23] (fun _ _ iv wr=>∃k:Nat,k≤n∧iv=.int .i64 (k:Int)∧Hid (ZU may k (l.drop k)=R)∧∃y,wr=plus W y) (fun _ _ iv _=>n-(intOf iv).toNat)
 case atStart=>exact⟨0,Zq _,rfl,Yd,⟨#[],W.drawn⟩,(ZK W).symm⟩
 case round =>
  obtain⟨k,hk,rfl,hs,y,rfl⟩:=hrel;by_cases Zz:k<n
  ·obtain⟨a,ha⟩:=Z6 l k (by rw[ZJ.out];exact Zz)
   obtain⟨pa,rfl,hc⟩:=ZR.out k a ha;have q1:=Yu.out k a ha;have ZB:(may k a&&ZU may (k+1) (l.drop (k+1)))=R:=by rw[←WK may l k a ha];exact hs.out
   obtain⟨Z,hZ⟩:=Zv (may k a);rw[hZ]at q1 ZB;have d0:=fun y=>(hc.plus y).c0 _ rfl;simp only[Nat.mul_one]at d0;have q1':=Zg q1;have a6:=Zg (Yo k n Zz ZX.out);clear q1 hZ hc ha hs ;cases Z with
   | true =>
    have ZD:=Zg (show ZU may (k+1) (l.drop (k+1))=R by rw[←ZB,Ze]);clear ZB;go_wp2_with (refine (q1'.out _).mono ?_;rintro e w' ⟨rfl,x,rfl⟩);go_roundw
    case rel=>exact⟨k+1,Zz,congrArg (Zt .i64) a6.out,ZD,x,rfl⟩
    case measure=>exact YF k n Zz a6.out
   | false =>
    have ZD:=Zg (show false=R by rw[←ZB,Bool.false_and]);clear ZB;go_wp2_with (refine (q1'.out _).mono ?_;rintro e w' ⟨rfl,x,rfl⟩);go_ret;exact⟨congrArg (fun z=>Zf (Zs z)) ZD.out,x,rfl⟩
  ·obtain rfl:k=n:=by omega
   have ZD:=Zg (show true=R by
    rw[←hs.out,Zh (by rw[ZJ.out];exact Zp _)];rfl)
   clear hs Zz hk;go_wp2;go_ret;exact⟨congrArg (fun z=>Zf (Zs z)) ZD.out,y,rfl⟩
end Go.Proofs.YtheaknidbcbneaaGreat

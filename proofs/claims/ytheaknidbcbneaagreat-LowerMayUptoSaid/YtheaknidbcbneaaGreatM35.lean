/-
  WHAT IS PROVED HERE: a part of the proof (made narrower and merged by program; the parts: Lpk Lpl Lpm).
-/
import Derived.Test.YtheaknidbcbneaaGreatM34
import Derived.Test.YtheaknidbcbneaaGreatM9
import Derived.Test.YtheaknidbcbneaaGreatM10
import Derived.Test.YtheaknidbcbneaaGreatM33
import Derived.Test.YtheaknidbcbneaaGreatM31
set_option maxRecDepth 100000
set_option maxHeartbeats 8000000
set_option linter.all false
namespace Go.Proofs.YtheaknidbcbneaaGreat
open Go.RowKit Go.Proofs.Tryz
open Below renaming refl→Zc
open Ending renaming returned→Zf
open Lib renaming hid→Zg
open List renaming getElem?_eq_getElem→Zi,getElem?_eq_some_iff→Zj
open Nat renaming le_refl→Zp,zero_le→Zq
open Go.Proofs.Tryz renaming prog→Zr
open Value renaming bool→Zs,int→Zt
open Go.RowKit
theorem Jp(q0p q0n q0c q1p q1n q1c q2p q2n q2c q3p q3n q3c q4p q4n q4c q5p q5n q5c q6p q6n q6c q7p q7n q7c q8p q8n q8c q9p q9n q9c q10p q10n q10c q11p q11n q11c)(mr:Nat)(s0 s1 s2 s3 s4 s5 s6 s7 s8 w)(h0:Kp Zr w 42 #[.slice q0p q0n q0c,.int .i64 0,.int .i64 8,.func (.func 43) #[] #[]] (.bool s0))(h1:Kp Zr w 44 #[.slice q1p q1n q1c,.int .i64 0,.int .i64 16,.func (.func 45) #[] #[]] (.bool s1))(h2:Kp Zr w 46 #[.slice q2p q2n q2c,.int .i64 1,.int .i64 16,.func (.func 47) #[.agg #[.slice q0p q0n q0c,.slice q1p q1n q1c,.slice q2p q2n q2c,.slice q3p q3n q3c,.slice q4p q4n q4c,.slice q5p q5n q5c,.slice q6p q6n q6c,.slice q7p q7n q7c,.slice q8p q8n q8c,.slice q9p q9n q9c,.slice q10p q10n q10c,.slice q11p q11n q11c,.map (some mr)]] #[]] (.bool s2))(h3:s2=true→Kp Zr w 48 #[.slice q2p q2n q2c] (.bool s3))(h4:Kp Zr w 49 #[.slice q3p q3n q3c,.int .i64 0,.int .i64 16,.func (.func 50) #[.agg #[.slice q0p q0n q0c,.slice q1p q1n q1c,.slice q2p q2n q2c,.slice q3p q3n q3c,.slice q4p q4n q4c,.slice q5p q5n q5c,.slice q6p q6n q6c,.slice q7p q7n q7c,.slice q8p q8n q8c,.slice q9p q9n q9c,.slice q10p q10n q10c,.slice q11p q11n q11c,.map (some mr)]] #[]] (.bool s4))(h5:Kp Zr w 51 #[.slice q4p q4n q4c,.int .i64 0,.int .i64 8,.func (.func 52) #[.agg #[.slice q0p q0n q0c,.slice q1p q1n q1c,.slice q2p q2n q2c,.slice q3p q3n q3c,.slice q4p q4n q4c,.slice q5p q5n q5c,.slice q6p q6n q6c,.slice q7p q7n q7c,.slice q8p q8n q8c,.slice q9p q9n q9c,.slice q10p q10n q10c,.slice q11p q11n q11c,.map (some mr)]] #[]] (.bool s5))(h6:Kp Zr w 53 #[.agg #[.slice q0p q0n q0c,.slice q1p q1n q1c,.slice q2p q2n q2c,.slice q3p q3n q3c,.slice q4p q4n q4c,.slice q5p q5n q5c,.slice q6p q6n q6c,.slice q7p q7n q7c,.slice q8p q8n q8c,.slice q9p q9n q9c,.slice q10p q10n q10c,.slice q11p q11n q11c,.map (some mr)],.int .i64 (-1),.slice q5p q5n q5c] (.bool s6))(h7:Kp Zr w 54 #[.slice q6p q6n q6c,.int .i64 0,.int .i64 8,.slice q0p q0n q0c] (.bool s7))(h8:Kp Zr w 55 #[.agg #[.slice q0p q0n q0c,.slice q1p q1n q1c,.slice q2p q2n q2c,.slice q3p q3n q3c,.slice q4p q4n q4c,.slice q5p q5n q5c,.slice q6p q6n q6c,.slice q7p q7n q7c,.slice q8p q8n q8c,.slice q9p q9n q9c,.slice q10p q10n q10c,.slice q11p q11n q11c,.map (some mr)]] (.bool s8)) :
  Kp Zr w 21 #[.agg #[.slice q0p q0n q0c,.slice q1p q1n q1c,.slice q2p q2n q2c,.slice q3p q3n q3c,.slice q4p q4n q4c,.slice q5p q5n q5c,.slice q6p q6n q6c,.slice q7p q7n q7c,.slice q8p q8n q8c,.slice q9p q9n q9c,.slice q10p q10n q10c,.slice q11p q11n q11c,.map (some mr)]] (.bool (s0&&(s1&&(s2&&(s3&&(s4&&(s5&&(s6&&(s7&&(s8)))))))))):=by
 intro y0;have h0:=h0.up y0;have h1:=h1.up y0;have h2:=h2.up y0;have h3:=fun h=>(h3 h).up y0;have h4:=h4.up y0;have h5:=h5.up y0;have h6:=h6.up y0;have h7:=h7.up y0;have h8:=h8.up y0;obtain⟨V,hV⟩:=Zv (plus w y0);rw[hV]at h0 h1 h2 h3 h4 h5 h6 h7 h8 ⊢;clear hV;obtain⟨R,hR⟩:=Zv (s0&&(s1&&(s2&&(s3&&(s4&&(s5&&(s6&&(s7&&(s8)))))))));rw[hR];cases s0
 case false =>
  have hF:=Zg (show (false)=R by first|exact hR|(rw[←hR];simp));clear hR;clear h1 h2 h3 h4 h5 h6 h7 h8;have h0:=Zg h0;go_enter func21,ntmps21;go_wp2_with fail;obtain⟨W,yy,hW,⟨z,hz⟩,cb0⟩:=Ya V _ 82;rw[hW];have c0_0:=cb0 0 _ rfl;have c0_1:=cb0 1 _ rfl;have c0_2:=cb0 2 _ rfl;have c0_3:=cb0 3 _ rfl;have c0_4:=cb0 4 _ rfl;have c0_5:=cb0 5 _ rfl;have c0_6:=cb0 6 _ rfl;have c0_7:=cb0 7 _ rfl;have c0_8:=cb0 8 _ rfl;have c0_9:=cb0 9 _ rfl;have c0_10:=cb0 10 _ rfl;have c0_11:=cb0 11 _ rfl;have c0_12:=cb0 12 _ rfl;have u0c:=Zg (Zy hz h0.out);have Zw:=Zg hz;clear hW hz cb0;refine (u0c.out _).mono ?_;rintro r w' ⟨rfl,x1,rfl⟩;go_wp2_with fail;go_ret;exact⟨congrArg (fun z=>Zf (Zs z)) hF.out,by rw[Zw.out,Zx];exact⟨_,rfl⟩⟩
 case true =>
  cases s1
  case false =>
   have hF:=Zg (show (false)=R by first|exact hR|(rw[←hR];simp));clear hR;clear h2 h3 h4 h5 h6 h7 h8;have h0:=Zg h0;have h1:=Zg h1;go_enter func21,ntmps21;go_wp2_with fail;obtain⟨W,yy,hW,⟨z,hz⟩,cb0⟩:=Ya V _ 82;rw[hW];have c0_0:=cb0 0 _ rfl;have c0_1:=cb0 1 _ rfl;have c0_2:=cb0 2 _ rfl;have c0_3:=cb0 3 _ rfl;have c0_4:=cb0 4 _ rfl;have c0_5:=cb0 5 _ rfl;have c0_6:=cb0 6 _ rfl;have c0_7:=cb0 7 _ rfl;have c0_8:=cb0 8 _ rfl;have c0_9:=cb0 9 _ rfl;have c0_10:=cb0 10 _ rfl;have c0_11:=cb0 11 _ rfl;have c0_12:=cb0 12 _ rfl;have u0c:=Zg (Zy hz h0.out);have u1c:=Zg (Zy hz h1.out);have Zw:=Zg hz;clear hW hz cb0;refine (u0c.out _).mono ?_;rintro r w' ⟨rfl,x1,rfl⟩;go_wp2_with (first|(go_at_call 44;with_reducible refine (u1c.out _).mono ?_;rintro r w' ⟨rfl,x,rfl⟩));go_ret;exact⟨congrArg (fun z=>Zf (Zs z)) hF.out,by rw[Zw.out,Zx];exact⟨_,rfl⟩⟩
  case true =>
   cases s2
   case false =>
    have hF:=Zg (show (false)=R by first|exact hR|(rw[←hR];simp));clear hR;clear h3 h4 h5 h6 h7 h8;have h0:=Zg h0;have h1:=Zg h1;have h2:=Zg h2;go_enter func21,ntmps21;go_wp2_with fail;obtain⟨W,yy,hW,⟨z,hz⟩,cb0⟩:=Ya V _ 82;rw[hW];have c0_0:=cb0 0 _ rfl;have c0_1:=cb0 1 _ rfl;have c0_2:=cb0 2 _ rfl;have c0_3:=cb0 3 _ rfl;have c0_4:=cb0 4 _ rfl;have c0_5:=cb0 5 _ rfl;have c0_6:=cb0 6 _ rfl;have c0_7:=cb0 7 _ rfl;have c0_8:=cb0 8 _ rfl;have c0_9:=cb0 9 _ rfl;have c0_10:=cb0 10 _ rfl;have c0_11:=cb0 11 _ rfl;have c0_12:=cb0 12 _ rfl;have u0c:=Zg (Zy hz h0.out);have u1c:=Zg (Zy hz h1.out);have u2c:=Zg (Zy hz h2.out);have Zw:=Zg hz;clear hW hz cb0;refine (u0c.out _).mono ?_;rintro r w' ⟨rfl,x1,rfl⟩;go_wp2_with (first|(go_at_call 44;with_reducible refine (u1c.out _).mono ?_;rintro r w' ⟨rfl,x,rfl⟩)|(go_at_call 46;with_reducible refine (u2c.out _).mono ?_;rintro r w' ⟨rfl,x,rfl⟩));go_ret;exact⟨congrArg (fun z=>Zf (Zs z)) hF.out,by rw[Zw.out,Zx];exact⟨_,rfl⟩⟩
   case true =>
    cases s3
    case false =>
     have hF:=Zg (show (false)=R by first|exact hR|(rw[←hR];simp));clear hR;clear h4 h5 h6 h7 h8;have h0:=Zg h0;have h1:=Zg h1;have h2:=Zg h2;have h3:=Zg h3;go_enter func21,ntmps21;go_wp2_with fail;obtain⟨W,yy,hW,⟨z,hz⟩,cb0⟩:=Ya V _ 82;rw[hW];have c0_0:=cb0 0 _ rfl;have c0_1:=cb0 1 _ rfl;have c0_2:=cb0 2 _ rfl;have c0_3:=cb0 3 _ rfl;have c0_4:=cb0 4 _ rfl;have c0_5:=cb0 5 _ rfl;have c0_6:=cb0 6 _ rfl;have c0_7:=cb0 7 _ rfl;have c0_8:=cb0 8 _ rfl;have c0_9:=cb0 9 _ rfl;have c0_10:=cb0 10 _ rfl;have c0_11:=cb0 11 _ rfl;have c0_12:=cb0 12 _ rfl;have u0c:=Zg (Zy hz h0.out);have u1c:=Zg (Zy hz h1.out);have u2c:=Zg (Zy hz h2.out);have u3c:=Zg (Zy hz (h3.out (by trivial)));have Zw:=Zg hz;clear hW hz cb0;refine (u0c.out _).mono ?_;rintro r w' ⟨rfl,x1,rfl⟩;go_wp2_with (first|(go_at_call 44;with_reducible refine (u1c.out _).mono ?_;rintro r w' ⟨rfl,x,rfl⟩)|(go_at_call 46;with_reducible refine (u2c.out _).mono ?_;rintro r w' ⟨rfl,x,rfl⟩)|(go_at_call 48;with_reducible refine (u3c.out _).mono ?_;rintro r w' ⟨rfl,x,rfl⟩));go_ret;exact⟨congrArg (fun z=>Zf (Zs z)) hF.out,by rw[Zw.out,Zx];exact⟨_,rfl⟩⟩
    case true =>
     cases s4
     case false =>
      have hF:=Zg (show (false)=R by first|exact hR|(rw[←hR];simp));clear hR;clear h5 h6 h7 h8;have h0:=Zg h0;have h1:=Zg h1;have h2:=Zg h2;have h3:=Zg h3;have h4:=Zg h4;go_enter func21,ntmps21;go_wp2_with fail;obtain⟨W,yy,hW,⟨z,hz⟩,cb0⟩:=Ya V _ 82;rw[hW];have c0_0:=cb0 0 _ rfl;have c0_1:=cb0 1 _ rfl;have c0_2:=cb0 2 _ rfl;have c0_3:=cb0 3 _ rfl;have c0_4:=cb0 4 _ rfl;have c0_5:=cb0 5 _ rfl;have c0_6:=cb0 6 _ rfl;have c0_7:=cb0 7 _ rfl;have c0_8:=cb0 8 _ rfl;have c0_9:=cb0 9 _ rfl;have c0_10:=cb0 10 _ rfl;have c0_11:=cb0 11 _ rfl;have c0_12:=cb0 12 _ rfl;have u0c:=Zg (Zy hz h0.out);have u1c:=Zg (Zy hz h1.out);have u2c:=Zg (Zy hz h2.out);have u3c:=Zg (Zy hz (h3.out (by trivial)));have u4c:=Zg (Zy hz h4.out);have Zw:=Zg hz;clear hW hz cb0;refine (u0c.out _).mono ?_;rintro r w' ⟨rfl,x1,rfl⟩;go_wp2_with (first|(go_at_call 44;with_reducible refine (u1c.out _).mono ?_;rintro r w' ⟨rfl,x,rfl⟩)|(go_at_call 46;with_reducible refine (u2c.out _).mono ?_;rintro r w' ⟨rfl,x,rfl⟩)|(go_at_call 48;with_reducible refine (u3c.out _).mono ?_;rintro r w' ⟨rfl,x,rfl⟩)|(go_at_call 49;with_reducible refine (u4c.out _).mono ?_;rintro r w' ⟨rfl,x,rfl⟩));go_ret;exact⟨congrArg (fun z=>Zf (Zs z)) hF.out,by rw[Zw.out,Zx];exact⟨_,rfl⟩⟩
     case true =>
      cases s5
      case false =>
       have hF:=Zg (show (false)=R by first|exact hR|(rw[←hR];simp));clear hR;clear h6 h7 h8;have h0:=Zg h0;have h1:=Zg h1;have h2:=Zg h2;have h3:=Zg h3;have h4:=Zg h4;have h5:=Zg h5;go_enter func21,ntmps21;go_wp2_with fail;obtain⟨W,yy,hW,⟨z,hz⟩,cb0⟩:=Ya V _ 82;rw[hW];have c0_0:=cb0 0 _ rfl;have c0_1:=cb0 1 _ rfl;have c0_2:=cb0 2 _ rfl;have c0_3:=cb0 3 _ rfl;have c0_4:=cb0 4 _ rfl;have c0_5:=cb0 5 _ rfl;have c0_6:=cb0 6 _ rfl;have c0_7:=cb0 7 _ rfl;have c0_8:=cb0 8 _ rfl;have c0_9:=cb0 9 _ rfl;have c0_10:=cb0 10 _ rfl;have c0_11:=cb0 11 _ rfl;have c0_12:=cb0 12 _ rfl;have u0c:=Zg (Zy hz h0.out);have u1c:=Zg (Zy hz h1.out);have u2c:=Zg (Zy hz h2.out);have u3c:=Zg (Zy hz (h3.out (by trivial)));have u4c:=Zg (Zy hz h4.out);have u5c:=Zg (Zy hz h5.out);have Zw:=Zg hz;clear hW hz cb0;refine (u0c.out _).mono ?_;rintro r w' ⟨rfl,x1,rfl⟩;go_wp2_with (first|(go_at_call 44;with_reducible refine (u1c.out _).mono ?_;rintro r w' ⟨rfl,x,rfl⟩)|(go_at_call 46;with_reducible refine (u2c.out _).mono ?_;rintro r w' ⟨rfl,x,rfl⟩)|(go_at_call 48;with_reducible refine (u3c.out _).mono ?_;rintro r w' ⟨rfl,x,rfl⟩)|(go_at_call 49;with_reducible refine (u4c.out _).mono ?_;rintro r w' ⟨rfl,x,rfl⟩)|(go_at_call 51;with_reducible refine (u5c.out _).mono ?_;rintro r w' ⟨rfl,x,rfl⟩));go_ret;exact⟨congrArg (fun z=>Zf (Zs z)) hF.out,by rw[Zw.out,Zx];exact⟨_,rfl⟩⟩
      case true =>
       cases s6
       case false =>
        have hF:=Zg (show (false)=R by first|exact hR|(rw[←hR];simp));clear hR;clear h7 h8;have h0:=Zg h0;have h1:=Zg h1;have h2:=Zg h2;have h3:=Zg h3;have h4:=Zg h4;have h5:=Zg h5;have h6:=Zg h6;go_enter func21,ntmps21;go_wp2_with fail;obtain⟨W,yy,hW,⟨z,hz⟩,cb0⟩:=Ya V _ 82;rw[hW];have c0_0:=cb0 0 _ rfl;have c0_1:=cb0 1 _ rfl;have c0_2:=cb0 2 _ rfl;have c0_3:=cb0 3 _ rfl;have c0_4:=cb0 4 _ rfl;have c0_5:=cb0 5 _ rfl;have c0_6:=cb0 6 _ rfl;have c0_7:=cb0 7 _ rfl;have c0_8:=cb0 8 _ rfl;have c0_9:=cb0 9 _ rfl;have c0_10:=cb0 10 _ rfl;have c0_11:=cb0 11 _ rfl;have c0_12:=cb0 12 _ rfl;have u0c:=Zg (Zy hz h0.out);have u1c:=Zg (Zy hz h1.out);have u2c:=Zg (Zy hz h2.out);have u3c:=Zg (Zy hz (h3.out (by trivial)));have u4c:=Zg (Zy hz h4.out);have u5c:=Zg (Zy hz h5.out);have u6c:=Zg (Zy hz h6.out);have Zw:=Zg hz;clear hW hz cb0;refine (u0c.out _).mono ?_;rintro r w' ⟨rfl,x1,rfl⟩;go_wp2_with (first|(go_at_call 44;with_reducible refine (u1c.out _).mono ?_;rintro r w' ⟨rfl,x,rfl⟩)|(go_at_call 46;with_reducible refine (u2c.out _).mono ?_;rintro r w' ⟨rfl,x,rfl⟩)|(go_at_call 48;with_reducible refine (u3c.out _).mono ?_;rintro r w' ⟨rfl,x,rfl⟩)|(go_at_call 49;with_reducible refine (u4c.out _).mono ?_;rintro r w' ⟨rfl,x,rfl⟩)|(go_at_call 51;with_reducible refine (u5c.out _).mono ?_;rintro r w' ⟨rfl,x,rfl⟩)|(go_at_call 53;with_reducible refine (u6c.out _).mono ?_;rintro r w' ⟨rfl,x,rfl⟩));go_ret;exact⟨congrArg (fun z=>Zf (Zs z)) hF.out,by rw[Zw.out,Zx];exact⟨_,rfl⟩⟩
       case true =>
        cases s7
        case false =>
         have hF:=Zg (show (false)=R by first|exact hR|(rw[←hR];simp));clear hR;clear h8;have h0:=Zg h0;have h1:=Zg h1;have h2:=Zg h2;have h3:=Zg h3;have h4:=Zg h4;have h5:=Zg h5;have h6:=Zg h6;have h7:=Zg h7;go_enter func21,ntmps21;go_wp2_with fail;obtain⟨W,yy,hW,⟨z,hz⟩,cb0⟩:=Ya V _ 82;rw[hW];have c0_0:=cb0 0 _ rfl;have c0_1:=cb0 1 _ rfl;have c0_2:=cb0 2 _ rfl;have c0_3:=cb0 3 _ rfl;have c0_4:=cb0 4 _ rfl;have c0_5:=cb0 5 _ rfl;have c0_6:=cb0 6 _ rfl;have c0_7:=cb0 7 _ rfl;have c0_8:=cb0 8 _ rfl;have c0_9:=cb0 9 _ rfl;have c0_10:=cb0 10 _ rfl;have c0_11:=cb0 11 _ rfl;have c0_12:=cb0 12 _ rfl;have u0c:=Zg (Zy hz h0.out);have u1c:=Zg (Zy hz h1.out);have u2c:=Zg (Zy hz h2.out);have u3c:=Zg (Zy hz (h3.out (by trivial)));have u4c:=Zg (Zy hz h4.out);have u5c:=Zg (Zy hz h5.out);have u6c:=Zg (Zy hz h6.out);have u7c:=Zg (Zy hz h7.out);have Zw:=Zg hz;clear hW hz cb0;refine (u0c.out _).mono ?_;rintro r w' ⟨rfl,x1,rfl⟩;go_wp2_with (first|(go_at_call 44;with_reducible refine (u1c.out _).mono ?_;rintro r w' ⟨rfl,x,rfl⟩)|(go_at_call 46;with_reducible refine (u2c.out _).mono ?_;rintro r w' ⟨rfl,x,rfl⟩)|(go_at_call 48;with_reducible refine (u3c.out _).mono ?_;rintro r w' ⟨rfl,x,rfl⟩)|(go_at_call 49;with_reducible refine (u4c.out _).mono ?_;rintro r w' ⟨rfl,x,rfl⟩)|(go_at_call 51;with_reducible refine (u5c.out _).mono ?_;rintro r w' ⟨rfl,x,rfl⟩)|(go_at_call 53;with_reducible refine (u6c.out _).mono ?_;rintro r w' ⟨rfl,x,rfl⟩)|(go_at_call 54;with_reducible refine (u7c.out _).mono ?_;rintro r w' ⟨rfl,x,rfl⟩));go_ret;exact⟨congrArg (fun z=>Zf (Zs z)) hF.out,by rw[Zw.out,Zx];exact⟨_,rfl⟩⟩
        case true =>
         cases s8
         case false =>
          have hF:=Zg (show (false)=R by first|exact hR|(rw[←hR];simp));clear hR;have h0:=Zg h0;have h1:=Zg h1;have h2:=Zg h2;have h3:=Zg h3;have h4:=Zg h4;have h5:=Zg h5;have h6:=Zg h6;have h7:=Zg h7;have h8:=Zg h8;go_enter func21,ntmps21;go_wp2_with fail;obtain⟨W,yy,hW,⟨z,hz⟩,cb0⟩:=Ya V _ 82;rw[hW];have c0_0:=cb0 0 _ rfl;have c0_1:=cb0 1 _ rfl;have c0_2:=cb0 2 _ rfl;have c0_3:=cb0 3 _ rfl;have c0_4:=cb0 4 _ rfl;have c0_5:=cb0 5 _ rfl;have c0_6:=cb0 6 _ rfl;have c0_7:=cb0 7 _ rfl;have c0_8:=cb0 8 _ rfl;have c0_9:=cb0 9 _ rfl;have c0_10:=cb0 10 _ rfl;have c0_11:=cb0 11 _ rfl;have c0_12:=cb0 12 _ rfl;have u0c:=Zg (Zy hz h0.out);have u1c:=Zg (Zy hz h1.out);have u2c:=Zg (Zy hz h2.out);have u3c:=Zg (Zy hz (h3.out (by trivial)));have u4c:=Zg (Zy hz h4.out);have u5c:=Zg (Zy hz h5.out);have u6c:=Zg (Zy hz h6.out);have u7c:=Zg (Zy hz h7.out);have u8c:=Zg (Zy hz h8.out);have Zw:=Zg hz;clear hW hz cb0;refine (u0c.out _).mono ?_;rintro r w' ⟨rfl,x1,rfl⟩;go_wp2_with (first|(go_at_call 44;with_reducible refine (u1c.out _).mono ?_;rintro r w' ⟨rfl,x,rfl⟩)|(go_at_call 46;with_reducible refine (u2c.out _).mono ?_;rintro r w' ⟨rfl,x,rfl⟩)|(go_at_call 48;with_reducible refine (u3c.out _).mono ?_;rintro r w' ⟨rfl,x,rfl⟩)|(go_at_call 49;with_reducible refine (u4c.out _).mono ?_;rintro r w' ⟨rfl,x,rfl⟩)|(go_at_call 51;with_reducible refine (u5c.out _).mono ?_;rintro r w' ⟨rfl,x,rfl⟩)|(go_at_call 53;with_reducible refine (u6c.out _).mono ?_;rintro r w' ⟨rfl,x,rfl⟩)|(go_at_call 54;with_reducible refine (u7c.out _).mono ?_;rintro r w' ⟨rfl,x,rfl⟩)|(go_at_call 55;with_reducible refine (u8c.out _).mono ?_;rintro r w' ⟨rfl,x,rfl⟩));go_ret;exact⟨congrArg (fun z=>Zf (Zs z)) hF.out,by rw[Zw.out,Zx];exact⟨_,rfl⟩⟩
         case true =>
          have hF:=Zg (show (true)=R by first|exact hR|(rw[←hR];simp));clear hR;have h0:=Zg h0;have h1:=Zg h1;have h2:=Zg h2;have h3:=Zg h3;have h4:=Zg h4;have h5:=Zg h5;have h6:=Zg h6;have h7:=Zg h7;have h8:=Zg h8;go_enter func21,ntmps21;go_wp2_with fail;obtain⟨W,yy,hW,⟨z,hz⟩,cb0⟩:=Ya V _ 82;rw[hW];have c0_0:=cb0 0 _ rfl;have c0_1:=cb0 1 _ rfl;have c0_2:=cb0 2 _ rfl;have c0_3:=cb0 3 _ rfl;have c0_4:=cb0 4 _ rfl;have c0_5:=cb0 5 _ rfl;have c0_6:=cb0 6 _ rfl;have c0_7:=cb0 7 _ rfl;have c0_8:=cb0 8 _ rfl;have c0_9:=cb0 9 _ rfl;have c0_10:=cb0 10 _ rfl;have c0_11:=cb0 11 _ rfl;have c0_12:=cb0 12 _ rfl;have u0c:=Zg (Zy hz h0.out);have u1c:=Zg (Zy hz h1.out);have u2c:=Zg (Zy hz h2.out);have u3c:=Zg (Zy hz (h3.out (by trivial)));have u4c:=Zg (Zy hz h4.out);have u5c:=Zg (Zy hz h5.out);have u6c:=Zg (Zy hz h6.out);have u7c:=Zg (Zy hz h7.out);have u8c:=Zg (Zy hz h8.out);have Zw:=Zg hz;clear hW hz cb0;refine (u0c.out _).mono ?_;rintro r w' ⟨rfl,x1,rfl⟩;go_wp2_with (first|(go_at_call 44;with_reducible refine (u1c.out _).mono ?_;rintro r w' ⟨rfl,x,rfl⟩)|(go_at_call 46;with_reducible refine (u2c.out _).mono ?_;rintro r w' ⟨rfl,x,rfl⟩)|(go_at_call 48;with_reducible refine (u3c.out _).mono ?_;rintro r w' ⟨rfl,x,rfl⟩)|(go_at_call 49;with_reducible refine (u4c.out _).mono ?_;rintro r w' ⟨rfl,x,rfl⟩)|(go_at_call 51;with_reducible refine (u5c.out _).mono ?_;rintro r w' ⟨rfl,x,rfl⟩)|(go_at_call 53;with_reducible refine (u6c.out _).mono ?_;rintro r w' ⟨rfl,x,rfl⟩)|(go_at_call 54;with_reducible refine (u7c.out _).mono ?_;rintro r w' ⟨rfl,x,rfl⟩)|(go_at_call 55;with_reducible refine (u8c.out _).mono ?_;rintro r w' ⟨rfl,x,rfl⟩));go_ret;exact⟨congrArg (fun z=>Zf (Zs z)) hF.out,by rw[Zw.out,Zx];exact⟨_,rfl⟩⟩
theorem OC{W:World}{base:Nat}(v:Value)(n:Nat){l:List Int}(hn:l.length=n){ops:Array Oper}{rest:List Oper}{o:Oper}{a:Act}{Q:Exit→Act→World→Prop}(h:W.ownsRow base 3 1 v n ((l.map Xt).flatten))(Um:base≤W.heap.size)(hb:l.length≤1048576)(y)(g:Nat)(VJ:W.cell? ⟨g,0,none⟩=some (.int .i64 y))(VL:o.guard=none)(s x:Operand)(ho:o.op=.call { callee:=.builtin .append,args:=#[s,x],argTypes:=#[23,23] })(hs:a.eval s=v)(hx:a.eval x=.slice (some ⟨g,0,none⟩) 1 1)(k:∀v' w',XJ w' base v' (l++[y])→W.grownBy w' v.ownBlock→wpList Zr ops Q rest (a.put o.dst v') w'):wpList Zr ops Q (o :: rest) a W:=by
 subst hn;obtain⟨i0,hi0,Ws,WH,hi3⟩:=info_parts Rc;refine wpList_append_own W VL s x 23 ho base 3 i0 (.int .i64 0) 1 8 Tryz.underlying23 hi0 Ws WH hi3 rfl (by decide) v l.length _ hs h ⟨g,0,none⟩ 1 1 (Xt y) hx rfl (fun j u hu=>by
   rw[Addr.add_lit,Nat.zero_add];match j,hu with
   | 0,hu=>obtain rfl:=Option.some.inj hu;exact VJ) (by intro u hu;simp only[List.mem_cons,List.not_mem_nil,or_false]at hu;subst hu;rfl)
  (by simp only[maxLen];omega) (by omega) Um fun v' w' h3 h4 _=>k v' w' (by
   show w'.ownsRow base _ 1 v' (l++[y]).length (((l++[y]).map Xt).flatten)
   rw[List.length_append,List.map_append,List.flatten_append];simpa using h3) h4
theorem JT(pp pn pc d W):Kp Zr W 124 #[.agg #[.slice pp pn pc,.int .i64 d]] (.int .i64 d):=by
 intro y0;obtain⟨V,hV⟩:=Zv (plus W y0);rw[hV];clear hV;go_enter func124,ntmps124;go_wp2;go_ret;exact⟨rfl,ZW _ _⟩
theorem KB(B:Sl Br)(W:World)(hB:B.In W 2 Br.cells (Br.In W))(hl:B.l.length≤1048576) :
  Calls Zr 123 #[B.v,.func (.func 124) #[] #[]] W fun e w'=>∃v,e=.returned v∧XJ w' W.heap.size v (B.l.map (·.dest))∧Below W.heap.size W w':=by
 obtain⟨p,cap,l⟩:=B;have Z1:=hB.row;simp only[Sl.v]at hl Z1 ⊢;obtain⟨n,hn⟩:=Zv l.length;rw[hn]at hl ⊢;have ZJ:=Zg hn;have Vq:=Zg Z1;have ZX:=Zg hl;have hE0:Hid (Below W.heap.size W W∧XJ W W.heap.size (.slice none 0 0) (((l.take 0)).map (·.dest))):=Zg ⟨Zc _ _,World.ownsRow_nil _ _ _ _⟩;clear hB Z1 hn;go_enter func123,ntmps123;go_wp2;go_loopw [5,7,10] (fun mv _ iv wr=>∃k:Nat,k≤n∧iv=.int .i64 (k:Int)∧Hid (Below W.heap.size W wr∧XJ wr W.heap.size mv ((l.take k).map (·.dest)))) (fun _ _ iv _=>n-(intOf iv).toNat)
 case atStart=>exact⟨0,Zq _,rfl,hE0⟩
 case round =>
  obtain⟨k,hk,rfl,hI⟩:=hrel;clear hE0;by_cases Zz:k<n
  ·obtain⟨⟨⟨pp,pc,pl⟩,d⟩,hq⟩:∃q,l[k]?=some q:=⟨l[k]'(by rw[ZJ.out];exact Zz),Zi _⟩
   obtain⟨a,rfl,hc⟩:=Vq.out k _ hq;have X3:=V5 hI.out.1 hc;obtain⟨pn,hpn⟩:=Zv pl.length;have d0:wr.cell? _=some (.slice pp pl.length pc):=X3.c0 _ rfl;have d1:wr.cell? _=some (.int .i64 d):=X3.cs 0 _ rfl;rw[hpn]at d0;obtain⟨h1,h2⟩:=Zj.1 hq;have htake:Hid ((l.take (k+1)).map (·.dest)=(l.take k).map (·.dest)++[d]):=Zg (by rw[List.take_succ_eq_append_getElem h1,h2,List.map_append];rfl);have YA:Hid (((l.take k).map (·.dest)).length=k):=Zg (by rw[List.length_map,List.length_take];omega);have k0:¬((k:Int)<0):=by omega
   have k1:(k:Int)<(n:Int):=by omega
   clear hc X3 hq h1 h2 hpn;obtain⟨V1,hV1⟩:=Zv (wr.alloc (.cells #[.slice pp pn pc,.int .i64 d] 52));have hI1:Hid (Below W.heap.size W V1∧XJ V1 W.heap.size u5 ((l.take k).map (·.dest))):=Zg (by rw[←hV1];exact⟨hI.out.1.alloc hI.out.1.size _,hI.out.2.alloc _⟩);have m0:V1.cell? ⟨wr.heap.size,0,none⟩=some (.slice pp pn pc):=by rw[←hV1];exact (Z4 _ _ _ _ 0 rfl).trans rfl
   have m1:V1.cell? ⟨wr.heap.size,1,none⟩=some (.int .i64 d):=by rw[←hV1];exact (Z4 _ _ _ _ 1 rfl).trans rfl
   have hT:=Zg (JT pp pn pc d V1);go_upto_region 5 with (fail)
   try rw[hV1]
   clear hV1 hI d0 d1;go_wp2_with fail;refine (YN hT.out).mono ?_;rintro e w' ⟨rfl,x1,rfl⟩;have hI2:Hid (Below W.heap.size W (Go.Proofs.YtheaknidbcbneaaGreat.plus V1 x1)∧XJ (Go.Proofs.YtheaknidbcbneaaGreat.plus V1 x1) W.heap.size u5 ((l.take k).map (·.dest))):=Zg ⟨hI1.out.1.trans ((Z9 V1 x1).mono hI1.out.1.size),Rh hI1.out.2 (Z9 V1 x1)⟩;generalize Go.Proofs.YtheaknidbcbneaaGreat.plus V1 x1=V2 at hI2 ⊢;clear hI1 m0 m1 hT;have YK:Hid (V2.ownsRow W.heap.size 3 1 u5 k ((((l.take k).map (·.dest)).map Xt).flatten)):=Zg (by have h:=hI2.out.2;unfold XJ at h;rwa [YA.out]at h);go_wp2_with (at_builtin;refine OC u5 k YA.out (YK.out.alloc _) (by have:=hI2.out.1.size;simp;omega) (by rw[YA.out];have:=ZX.out;omega) d V2.heap.size ((Z4 V2 _ _ _ 0 rfl).trans rfl) rfl _ _ rfl rfl rfl ?_);intro v' w1 Tj hgrow;have hI3:Hid (Below W.heap.size W w1∧XJ w1 W.heap.size v' ((l.take (k+1)).map (·.dest))):=Zg ⟨(hI2.out.1.alloc hI2.out.1.size _).grown hgrow (by have:=hI2.out.1.size;simp;omega) (fun j e=>(YK.out.lt j e).1),by rw[htake.out,List.map_take];exact Tj⟩;clear Tj hgrow YK hI2;go_wp2;go_roundw
   case rel=>exact⟨k+1,Zz,congrArg (Zt .i64) (by omega),hI3⟩
   case measure=>exact Wg k n Zz
  ·obtain rfl:k=n:=by omega
   have hI2:=hI;clear hI;go_wp2;go_ret;exact⟨u5,rfl,by have h:=hI2.out.2;rwa [List.take_of_length_le (by rw[ZJ.out];exact Zp _)]at h,hI2.out.1⟩
theorem KR(x:Int)(b:Nat)(w)(hx:x<0) :
  Kp Zr w 86 #[.int .i64 x,.pointer (some ⟨b,0,none⟩)] (.bool (false)):=by
 intro y0;have m1:decide (0≤x)=false:=decide_eq_false (by omega);have m2:¬0≤x:=by omega
 obtain⟨V,hV⟩:=Zv (plus w y0);rw[hV]at ⊢;clear hV;obtain⟨R,hR⟩:=Zv (false);rw[hR];have hF:=Zg (show (false)=R by first|exact hR|(rw[←hR];simp));clear hR;go_enter func86,ntmps86;go_wp2_with fail;go_ret;exact⟨congrArg (fun z=>Zf (Zs z)) hF.out,YD _⟩
theorem KQ(k b e n:Nat)(bk)(w:World)(hk:k<n)(hb:w.cell? ⟨b,0,none⟩=some (.slice (some ⟨e,0,none⟩) n n))(hd:w.cell? ⟨e,k,none⟩=some (.bool bk)) :
  Kp Zr w 86 #[.int .i64 (k:Int),.pointer (some ⟨b,0,none⟩)] (.bool (!bk)):=by
 intro y0;have hb:=ZC hb y0;have hd:=ZC hd y0;have k0:¬((k:Int)<0):=by omega
 have k1:(k:Int)<(n:Int):=by omega
 have m1:decide ((0:Int)≤(k:Int))=true:=decide_eq_true (by omega);obtain⟨V,hV⟩:=Zv (plus w y0);rw[hV]at hb hd ⊢;clear hV;obtain⟨R,hR⟩:=Zv (!bk);rw[hR];by_cases q1:(bk)=true
 case neg =>
  have q1:(bk)=false:=by simpa using q1
  have hF:=Zg (show (true)=R by first|exact hR|(rw[←hR];simp[q1]));clear hR;go_enter func86,ntmps86;go_wp2_with fail;go_ret;exact⟨congrArg (fun z=>Zf (Zs z)) hF.out,YD _⟩
 case pos =>
  have hF:=Zg (show (false)=R by first|exact hR|(rw[←hR];simp[q1]));clear hR;go_enter func86,ntmps86;go_wp2_with fail;go_ret;exact⟨congrArg (fun z=>Zf (Zs z)) hF.out,YD _⟩
def Ud(s:Sp):List Int:=if s.keys.l.length=0 then [s.dest] else s.branches.l.map (·.dest)
theorem I8{w:World}{base:Nat}{v:Value}{l:List Int}(h:XJ w base v l)(hw:∀x∈l,Yg .i64 x):∃A:Sl Int,A.v=v∧A.l=l∧A.In w 1 (Z8 .i64) (Yg .i64):=by
 obtain⟨p,c,rfl,hc,-,-⟩:=Sc h;refine⟨⟨p,c,l⟩,rfl,rfl,hc,?_,fun i x hx=>?_,hw⟩
 ·rcases h.2 with⟨hv,h0⟩|⟨g,cap,cur,hv,hg,hh,h3,h4,h5,h6⟩
  ·simp only[Value.slice.injEq]at hv
   obtain⟨-,-,rfl⟩:=hv;exact Zq _
  ·simp only[Value.slice.injEq]at hv
   obtain⟨-,-,rfl⟩:=hv;exact h4
 ·obtain⟨g,rfl,-,-,VJ⟩:=VY h hx
  refine⟨_,rfl,fun j v hj=>?_⟩;match j,hj with
  | 0,hj =>
   obtain rfl:=Option.some.inj hj;rw[Addr.add_lit,Addr.add_lit];simpa using VJ
theorem JS(s:Sp)(W:World)(hs:s.In W)(hl:s.branches.l.length≤1048576) :
  Calls Zr 87 #[.agg #[s.takes.v,s.keys.v,s.branches.v,.int .i64 s.dest]] W fun e w'=>∃A:Sl Int,e=.returned A.v∧A.l=Ud s∧A.In w' 1 (Z8 .i64) (Yg .i64)∧∃x,w'=plus W x:=by
 obtain⟨⟨tp,tc,tl⟩,⟨kp,kc,kl⟩,B,d⟩:=s;have hBr:=hs.branches;have hd:=hs.dest;simp only[Ud]at hBr hd hl ⊢;have hok:∀x∈B.l.map (·.dest),Yg .i64 x:=fun x hx=>by
  obtain⟨b,hb,rfl⟩:=List.mem_map.1 hx;exact (hBr.kids b hb).dest
 obtain⟨kn,hkn⟩:=Zv kl.length;obtain⟨tn,htn⟩:=Zv tl.length;simp only[Sl.v,hkn,htn];by_cases hk:kn=0
 ·subst hk
  simp only[if_true];clear hs hBr hok;obtain⟨bp,bc,bl⟩:=B;obtain⟨bn,Xa⟩:=Zv bl.length;simp only[Xa];go_enter func87,ntmps87;go_wp2;go_ret;refine⟨⟨some ⟨W.heap.size+1,0,none⟩,1,[d]⟩,rfl,rfl,⟨Zp _,by simp[maxLen],fun i x hx=>?_,fun x hx=>?_⟩,?_⟩
  ·match i,hx with
   | 0,hx =>
    obtain rfl:=Option.some.inj hx;refine⟨_,rfl,fun j v hj=>?_⟩;match j,hj with
    | 0,hj =>
     obtain rfl:=Option.some.inj hj;rw[Addr.add_lit,Addr.add_lit];exact Z4 _ _ _ _ _ (by simp)
  ·obtain rfl:=List.mem_singleton.1 hx
   exact hd
  ·exact ZS (((Zc _ _).alloc (Zp _) _).alloc (by simp) _)
 ·have e1:((kn:Int)==0)=false:=by simp;omega
  have e2:¬(kn:Int)=0:=by omega
  rw[if_neg hk];obtain⟨V1,hV1⟩:=Zv (W.alloc (.cells #[.slice tp tn tc,.slice kp kn kc,.slice B.p B.l.length B.cap,.int .i64 d] 49));obtain⟨z,hz⟩:=ZW W (.cells #[.slice tp tn tc,.slice kp kn kc,.slice B.p B.l.length B.cap,.int .i64 d] 49);rw[hV1]at hz;have hA:=Zg (KB B V1 (by rw[hz];exact hBr.plus (fun y (h:Br.In W y)=>h.plus z) z) hl);have Zw:=Zg hz;have hok':=Zg hok;have m2:V1.cell? ⟨W.heap.size,2,none⟩=some (.slice B.p B.l.length B.cap):=by rw[←hV1];exact (Z4 _ _ _ _ 2 rfl).trans rfl
  have m1:V1.cell? ⟨W.heap.size,1,none⟩=some (.slice kp kn kc):=by rw[←hV1];exact (Z4 _ _ _ _ 1 rfl).trans rfl
  obtain⟨bp,bc,bl⟩:=B;obtain⟨bn,Xa⟩:=Zv bl.length;simp only[Sl.v,Xa]at hA hok' m2 hV1 ⊢;clear hs hBr hok hz hl;go_enter func87,ntmps87;go_upto_region 1 with (fail)
  try rw[hV1]
  clear hV1;go_wp2_with fail;refine hA.out.mono ?_;rintro e w' ⟨v,rfl,ho,Yz⟩;have Y3:Hid (∃A:Sl Int,A.v=v∧A.l=bl.map (·.dest)∧A.In w' 1 (Z8 .i64) (Yg .i64)):=Zg (I8 ho hok'.out);have hpl:Hid (∃x,w'=Go.Proofs.YtheaknidbcbneaaGreat.plus W x):=Zg (by
   obtain⟨x,hx⟩:=ZS Yz;rw[hx,Zw.out,Zx];exact⟨_,rfl⟩)
  clear ho Yz;go_wp2;go_ret;obtain⟨A,hA1,hA2,hA3⟩:=Y3.out;exact⟨A,congrArg Zf hA1.symm,hA2,hA3,hpl.out⟩
end Go.Proofs.YtheaknidbcbneaaGreat

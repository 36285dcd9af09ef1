/-
  WHAT IS PROVED HERE: a part of the proof (made narrower and merged by program; the parts: Lrc Lrd).
-/
import Derived.Test.YtheaknidbcbneaaGreatM38
set_option maxRecDepth 100000
set_option maxHeartbeats 8000000
set_option linter.all false
namespace Go.Proofs.YtheaknidbcbneaaGreat
open Go.RowKit Go.Proofs.Tryz
open Below renaming refl→Zc
open Ending renaming returned→Zf
open Lib renaming hid→Zg
open Nat renaming le_refl→Zp
open Go.Proofs.Tryz renaming prog→Zr
open Value renaming int→Zt
open Go.RowKit
theorem TR(V:World)(c d e:Array Value)(t u s:TypeId):∃W y,((V.alloc (.cells c t)).alloc (.cells d u)).alloc (.cells e s)=plus W y∧(∃z,W=plus V z)∧(∀o v,c[o]?=v→∀y,(plus W y).cell? ⟨V.heap.size,o,none⟩=v)∧(∀o v,d[o]?=v→∀y,(plus W y).cell? ⟨V.heap.size+1,o,none⟩=v)∧(∀o v,e[o]?=v→∀y,(plus W y).cell? ⟨V.heap.size+1+1,o,none⟩=v):=by
 obtain⟨W,hW,hB,hz,ca,cb,cc,-⟩:=WL V c d e t u s;exact⟨W,⟨#[],W.drawn⟩,by rw[ZK,hW],ZS hB,ca,cb,cc⟩
theorem YHl(V:World)(a b c:Obj):∃x,((V.alloc a).alloc b).alloc c=plus V x:=ZS ((((Zc _ V).alloc (Zp _) a).alloc (by simp) b).alloc (by simp;omega) c)
theorem Gg(q0p q0n q0c q1p q1n q1c q2p q2n q2c q3p q3n q3c q4p q4n q4c q5p q5n q5c q6p q6n q6c q7p q7n q7c q8p q8n q8c q9p q9n q9c q10p q10n q10c q11p q11n q11c act nw na nb vh vl s0 s1 w)(h0:Kp Zr w 20 #[.int .i64 nw] (.bool s0))(h1:Kp Zr w 34 #[.agg #[.int .u64 vh,.int .u64 vl],.int .i64 nw] (.bool s1)) :
  Kp Zr w 17 #[.agg #[.slice q0p q0n q0c,.slice q1p q1n q1c,.slice q2p q2n q2c,.slice q3p q3n q3c,.slice q4p q4n q4c,.slice q5p q5n q5c,.slice q6p q6n q6c,.slice q7p q7n q7c,.slice q8p q8n q8c,.slice q9p q9n q9c,.slice q10p q10n q10c,.slice q11p q11n q11c],.int .i64 act,.agg #[.int .u8 1,.int .i64 nw,.int .i64 na,.int .i64 nb,.int .u64 vh,.int .u64 vl]] (.int .i64 (if na==0&&(nb==0&&(s0&&s1)) then nw else 0)):=by
 intro y0;have h0:=h0.up y0;have h1:=h1.up y0;obtain⟨V,hV⟩:=Zv (plus w y0);rw[hV]at h0 h1 ⊢;clear hV;obtain⟨R,hR⟩:=Zv ((if na==0&&(nb==0&&(s0&&s1)) then nw else 0):Int);rw[hR];by_cases q1:(na==0)=true
 case neg =>
  have q1:(na==0)=false:=by simpa using q1
  have q1n:(na !=0)=true:=by simp[bne,q1]
  have hF:=Zg (show (0)=R by first|exact hR|(rw[←hR];simp[q1]));clear hR;clear h0 h1;go_enter func17,ntmps17;go_wp2_with fail;go_ret;exact⟨congrArg (fun z=>Zf (Zt .i64 z)) hF.out,YHl _ _ _ _⟩
 case pos =>
  have q1n:(na !=0)=false:=by simp[bne,q1]
  by_cases q2:(nb==0)=true
  case neg =>
   have q2:(nb==0)=false:=by simpa using q2
   have q2n:(nb !=0)=true:=by simp[bne,q2]
   have hF:=Zg (show (0)=R by first|exact hR|(rw[←hR];simp[q1,q2]));clear hR;clear h0 h1;go_enter func17,ntmps17;go_wp2_with fail;go_ret;exact⟨congrArg (fun z=>Zf (Zt .i64 z)) hF.out,YHl _ _ _ _⟩
  case pos =>
   have q2n:(nb !=0)=false:=by simp[bne,q2]
   cases s0
   case false =>
    have hF:=Zg (show (0)=R by first|exact hR|(rw[←hR];simp[q1,q2]));clear hR;clear h1;have h0:=Zg h0;go_enter func17,ntmps17;go_wp2_with fail;obtain⟨W,yy,hW,⟨z,hz⟩,cb0,cb1,cb2⟩:=TR V _ _ _ 33 79 60;rw[hW];have c0_0:=cb0 0 _ rfl;have c0_1:=cb0 1 _ rfl;have c0_2:=cb0 2 _ rfl;have c0_3:=cb0 3 _ rfl;have c0_4:=cb0 4 _ rfl;have c0_5:=cb0 5 _ rfl;have c0_6:=cb0 6 _ rfl;have c0_7:=cb0 7 _ rfl;have c0_8:=cb0 8 _ rfl;have c0_9:=cb0 9 _ rfl;have c0_10:=cb0 10 _ rfl;have c0_11:=cb0 11 _ rfl;have c1_0:=cb1 0 _ rfl;have c1_1:=cb1 1 _ rfl;have c1_2:=cb1 2 _ rfl;have c1_3:=cb1 3 _ rfl;have c1_4:=cb1 4 _ rfl;have c1_5:=cb1 5 _ rfl;have c2_0:=cb2 0 _ rfl;have c2_1:=cb2 1 _ rfl;have u0c:=Zg (Zy hz h0.out);have Zw:=Zg hz;clear hW hz cb0 cb1 cb2;refine (u0c.out _).mono ?_;rintro r w' ⟨rfl,x1,rfl⟩;go_wp2_with fail;go_ret;exact⟨congrArg (fun z=>Zf (Zt .i64 z)) hF.out,by rw[Zw.out,Zx];exact⟨_,rfl⟩⟩
   case true =>
    cases s1
    case false =>
     have hF:=Zg (show (0)=R by first|exact hR|(rw[←hR];simp[q1,q2]));clear hR;have h0:=Zg h0;have h1:=Zg h1;go_enter func17,ntmps17;go_wp2_with fail;obtain⟨W,yy,hW,⟨z,hz⟩,cb0,cb1,cb2⟩:=TR V _ _ _ 33 79 60;rw[hW];have c0_0:=cb0 0 _ rfl;have c0_1:=cb0 1 _ rfl;have c0_2:=cb0 2 _ rfl;have c0_3:=cb0 3 _ rfl;have c0_4:=cb0 4 _ rfl;have c0_5:=cb0 5 _ rfl;have c0_6:=cb0 6 _ rfl;have c0_7:=cb0 7 _ rfl;have c0_8:=cb0 8 _ rfl;have c0_9:=cb0 9 _ rfl;have c0_10:=cb0 10 _ rfl;have c0_11:=cb0 11 _ rfl;have c1_0:=cb1 0 _ rfl;have c1_1:=cb1 1 _ rfl;have c1_2:=cb1 2 _ rfl;have c1_3:=cb1 3 _ rfl;have c1_4:=cb1 4 _ rfl;have c1_5:=cb1 5 _ rfl;have c2_0:=cb2 0 _ rfl;have c2_1:=cb2 1 _ rfl;have u0c:=Zg (Zy hz h0.out);have u1c:=Zg (Zy hz h1.out);have Zw:=Zg hz;clear hW hz cb0 cb1 cb2;refine (u0c.out _).mono ?_;rintro r w' ⟨rfl,x1,rfl⟩;go_wp2_with (first|(go_at_call 34;with_reducible refine (u1c.out _).mono ?_;rintro r w' ⟨rfl,x,rfl⟩));go_ret;exact⟨congrArg (fun z=>Zf (Zt .i64 z)) hF.out,by rw[Zw.out,Zx];exact⟨_,rfl⟩⟩
    case true =>
     have hF:=Zg (show (nw)=R by first|exact hR|(rw[←hR];simp[q1,q2]));clear hR;have h0:=Zg h0;have h1:=Zg h1;go_enter func17,ntmps17;go_wp2_with fail;obtain⟨W,yy,hW,⟨z,hz⟩,cb0,cb1,cb2⟩:=TR V _ _ _ 33 79 60;rw[hW];have c0_0:=cb0 0 _ rfl;have c0_1:=cb0 1 _ rfl;have c0_2:=cb0 2 _ rfl;have c0_3:=cb0 3 _ rfl;have c0_4:=cb0 4 _ rfl;have c0_5:=cb0 5 _ rfl;have c0_6:=cb0 6 _ rfl;have c0_7:=cb0 7 _ rfl;have c0_8:=cb0 8 _ rfl;have c0_9:=cb0 9 _ rfl;have c0_10:=cb0 10 _ rfl;have c0_11:=cb0 11 _ rfl;have c1_0:=cb1 0 _ rfl;have c1_1:=cb1 1 _ rfl;have c1_2:=cb1 2 _ rfl;have c1_3:=cb1 3 _ rfl;have c1_4:=cb1 4 _ rfl;have c1_5:=cb1 5 _ rfl;have c2_0:=cb2 0 _ rfl;have c2_1:=cb2 1 _ rfl;have u0c:=Zg (Zy hz h0.out);have u1c:=Zg (Zy hz h1.out);have Zw:=Zg hz;clear hW hz cb0 cb1 cb2;refine (u0c.out _).mono ?_;rintro r w' ⟨rfl,x1,rfl⟩;go_wp2_with (first|(go_at_call 34;with_reducible refine (u1c.out _).mono ?_;rintro r w' ⟨rfl,x,rfl⟩));go_ret;exact⟨congrArg (fun z=>Zf (Zt .i64 z)) hF.out,by rw[Zw.out,Zx];exact⟨_,rfl⟩⟩
theorem Gq(q0p q0n q0c q1p q1n q1c q2p q2n q2c q3p q3n q3c q4p q4n q4c q5p q5n q5c q6p q6n q6c q7p q7n q7c q8p q8n q8c q9p q9n q9c q10p q10n q10c q11p q11n q11c act nw na nb vh vl w) :
  Kp Zr w 17 #[.agg #[.slice q0p q0n q0c,.slice q1p q1n q1c,.slice q2p q2n q2c,.slice q3p q3n q3c,.slice q4p q4n q4c,.slice q5p q5n q5c,.slice q6p q6n q6c,.slice q7p q7n q7c,.slice q8p q8n q8c,.slice q9p q9n q9c,.slice q10p q10n q10c,.slice q11p q11n q11c],.int .i64 act,.agg #[.int .u8 5,.int .i64 nw,.int .i64 na,.int .i64 nb,.int .u64 vh,.int .u64 vl]] (.int .i64 (if vh==0&&(vl==0&&(nb==0&&na==0)) then 9 else 0)):=by
 intro y0;obtain⟨V,hV⟩:=Zv (plus w y0);rw[hV]at ⊢;clear hV;obtain⟨R,hR⟩:=Zv ((if vh==0&&(vl==0&&(nb==0&&na==0)) then 9 else 0):Int);rw[hR];by_cases q1:(vh==0)=true
 case neg =>
  have q1:(vh==0)=false:=by simpa using q1
  have q1n:(vh !=0)=true:=by simp[bne,q1]
  have hF:=Zg (show (0)=R by first|exact hR|(rw[←hR];simp[q1]));clear hR;go_enter func17,ntmps17;go_wp2_with fail;go_ret;exact⟨congrArg (fun z=>Zf (Zt .i64 z)) hF.out,YHl _ _ _ _⟩
 case pos =>
  have q1n:(vh !=0)=false:=by simp[bne,q1]
  by_cases q2:(vl==0)=true
  case neg =>
   have q2:(vl==0)=false:=by simpa using q2
   have q2n:(vl !=0)=true:=by simp[bne,q2]
   have hF:=Zg (show (0)=R by first|exact hR|(rw[←hR];simp[q1,q2]));clear hR;go_enter func17,ntmps17;go_wp2_with fail;go_ret;exact⟨congrArg (fun z=>Zf (Zt .i64 z)) hF.out,YHl _ _ _ _⟩
  case pos =>
   have q2n:(vl !=0)=false:=by simp[bne,q2]
   by_cases q3:(nb==0)=true
   case neg =>
    have q3:(nb==0)=false:=by simpa using q3
    have q3n:(nb !=0)=true:=by simp[bne,q3]
    have hF:=Zg (show (0)=R by first|exact hR|(rw[←hR];simp[q1,q2,q3]));clear hR;go_enter func17,ntmps17;go_wp2_with fail;go_ret;exact⟨congrArg (fun z=>Zf (Zt .i64 z)) hF.out,YHl _ _ _ _⟩
   case pos =>
    have q3n:(nb !=0)=false:=by simp[bne,q3]
    by_cases q4:(na==0)=true
    case neg =>
     have q4:(na==0)=false:=by simpa using q4
     have q4n:(na !=0)=true:=by simp[bne,q4]
     have hF:=Zg (show (0)=R by first|exact hR|(rw[←hR];simp[q1,q2,q3,q4]));clear hR;go_enter func17,ntmps17;go_wp2_with fail;go_ret;exact⟨congrArg (fun z=>Zf (Zt .i64 z)) hF.out,YHl _ _ _ _⟩
    case pos =>
     have q4n:(na !=0)=false:=by simp[bne,q4]
     have hF:=Zg (show (9)=R by first|exact hR|(rw[←hR];simp[q1,q2,q3,q4]));clear hR;go_enter func17,ntmps17;go_wp2_with fail;go_ret;exact⟨congrArg (fun z=>Zf (Zt .i64 z)) hF.out,YHl _ _ _ _⟩
theorem Gr(q0p q0n q0c q1p q1n q1c q2p q2n q2c q3p q3n q3c q4p q4n q4c q5p q5n q5c q6p q6n q6c q7p q7n q7c q8p q8n q8c q9p q9n q9c q10p q10n q10c q11p q11n q11c act nw na nb vh vl w) :
  Kp Zr w 17 #[.agg #[.slice q0p q0n q0c,.slice q1p q1n q1c,.slice q2p q2n q2c,.slice q3p q3n q3c,.slice q4p q4n q4c,.slice q5p q5n q5c,.slice q6p q6n q6c,.slice q7p q7n q7c,.slice q8p q8n q8c,.slice q9p q9n q9c,.slice q10p q10n q10c,.slice q11p q11n q11c],.int .i64 act,.agg #[.int .u8 6,.int .i64 nw,.int .i64 na,.int .i64 nb,.int .u64 vh,.int .u64 vl]] (.int .i64 (if vh==0&&(vl==0&&(nb==0&&(decide (0≤na)&&decide (na<(q0n:Int))))) then 1 else 0)):=by
 intro y0;obtain⟨V,hV⟩:=Zv (plus w y0);rw[hV]at ⊢;clear hV;obtain⟨R,hR⟩:=Zv ((if vh==0&&(vl==0&&(nb==0&&(decide (0≤na)&&decide (na<(q0n:Int))))) then 1 else 0):Int);rw[hR];by_cases q1:(vh==0)=true
 case neg =>
  have q1:(vh==0)=false:=by simpa using q1
  have q1n:(vh !=0)=true:=by simp[bne,q1]
  have hF:=Zg (show (0)=R by first|exact hR|(rw[←hR];simp[q1]));clear hR;go_enter func17,ntmps17;go_wp2_with fail;go_ret;exact⟨congrArg (fun z=>Zf (Zt .i64 z)) hF.out,YHl _ _ _ _⟩
 case pos =>
  have q1n:(vh !=0)=false:=by simp[bne,q1]
  by_cases q2:(vl==0)=true
  case neg =>
   have q2:(vl==0)=false:=by simpa using q2
   have q2n:(vl !=0)=true:=by simp[bne,q2]
   have hF:=Zg (show (0)=R by first|exact hR|(rw[←hR];simp[q1,q2]));clear hR;go_enter func17,ntmps17;go_wp2_with fail;go_ret;exact⟨congrArg (fun z=>Zf (Zt .i64 z)) hF.out,YHl _ _ _ _⟩
  case pos =>
   have q2n:(vl !=0)=false:=by simp[bne,q2]
   by_cases q3:(nb==0)=true
   case neg =>
    have q3:(nb==0)=false:=by simpa using q3
    have q3n:(nb !=0)=true:=by simp[bne,q3]
    have hF:=Zg (show (0)=R by first|exact hR|(rw[←hR];simp[q1,q2,q3]));clear hR;go_enter func17,ntmps17;go_wp2_with fail;go_ret;exact⟨congrArg (fun z=>Zf (Zt .i64 z)) hF.out,YHl _ _ _ _⟩
   case pos =>
    have q3n:(nb !=0)=false:=by simp[bne,q3]
    by_cases q4:0≤na
    case neg =>
     have q4b:decide (0≤na)=false:=decide_eq_false q4;have hF:=Zg (show (0)=R by first|exact hR|(rw[←hR];simp[q1,q2,q3,q4]));clear hR;go_enter func17,ntmps17;go_wp2_with fail;go_ret;exact⟨congrArg (fun z=>Zf (Zt .i64 z)) hF.out,YHl _ _ _ _⟩
    case pos =>
     have q4b:decide (0≤na)=true:=decide_eq_true q4;by_cases q5:na<(q0n:Int)
     case neg =>
      have q5b:decide (na<(q0n:Int))=false:=decide_eq_false q5;have hF:=Zg (show (0)=R by first|exact hR|(rw[←hR];simp[q1,q2,q3,q4,q5]));clear hR;go_enter func17,ntmps17;go_wp2_with fail;go_ret;exact⟨congrArg (fun z=>Zf (Zt .i64 z)) hF.out,YHl _ _ _ _⟩
     case pos =>
      have q5b:decide (na<(q0n:Int))=true:=decide_eq_true q5;have hF:=Zg (show (1)=R by first|exact hR|(rw[←hR];simp[q1,q2,q3,q4,q5]));clear hR;go_enter func17,ntmps17;go_wp2_with fail;go_ret;exact⟨congrArg (fun z=>Zf (Zt .i64 z)) hF.out,YHl _ _ _ _⟩
theorem Gl(q0p q0n q0c q1p q1n q1c q2p q2n q2c q3p q3n q3c q4p q4n q4c q5p q5n q5c q6p q6n q6c q7p q7n q7c q8p q8n q8c q9p q9n q9c q10p q10n q10c q11p q11n q11c act nw na nb vh vl x w)(h0:Kp Zr w 41 #[.slice q1p q1n q1c,.int .i64 na] (.int .i64 x)) :
  Kp Zr w 17 #[.agg #[.slice q0p q0n q0c,.slice q1p q1n q1c,.slice q2p q2n q2c,.slice q3p q3n q3c,.slice q4p q4n q4c,.slice q5p q5n q5c,.slice q6p q6n q6c,.slice q7p q7n q7c,.slice q8p q8n q8c,.slice q9p q9n q9c,.slice q10p q10n q10c,.slice q11p q11n q11c],.int .i64 act,.agg #[.int .u8 3,.int .i64 nw,.int .i64 na,.int .i64 nb,.int .u64 vh,.int .u64 vl]] (.int .i64 (if vh==0&&(vl==0&&nb==0) then x else 0)):=by
 intro y0;have h0:=h0.up y0;obtain⟨V,hV⟩:=Zv (plus w y0);rw[hV]at h0 ⊢;clear hV;obtain⟨R,hR⟩:=Zv ((if vh==0&&(vl==0&&nb==0) then x else 0):Int);rw[hR];by_cases q1:(vh==0)=true
 case neg =>
  have q1:(vh==0)=false:=by simpa using q1
  have q1n:(vh !=0)=true:=by simp[bne,q1]
  have hF:=Zg (show (0)=R by first|exact hR|(rw[←hR];simp[q1]));clear hR;clear h0;go_enter func17,ntmps17;go_wp2_with fail;go_ret;exact⟨congrArg (fun z=>Zf (Zt .i64 z)) hF.out,YHl _ _ _ _⟩
 case pos =>
  have q1n:(vh !=0)=false:=by simp[bne,q1]
  by_cases q2:(vl==0)=true
  case neg =>
   have q2:(vl==0)=false:=by simpa using q2
   have q2n:(vl !=0)=true:=by simp[bne,q2]
   have hF:=Zg (show (0)=R by first|exact hR|(rw[←hR];simp[q1,q2]));clear hR;clear h0;go_enter func17,ntmps17;go_wp2_with fail;go_ret;exact⟨congrArg (fun z=>Zf (Zt .i64 z)) hF.out,YHl _ _ _ _⟩
  case pos =>
   have q2n:(vl !=0)=false:=by simp[bne,q2]
   by_cases q3:(nb==0)=true
   case neg =>
    have q3:(nb==0)=false:=by simpa using q3
    have q3n:(nb !=0)=true:=by simp[bne,q3]
    have hF:=Zg (show (0)=R by first|exact hR|(rw[←hR];simp[q1,q2,q3]));clear hR;clear h0;go_enter func17,ntmps17;go_wp2_with fail;go_ret;exact⟨congrArg (fun z=>Zf (Zt .i64 z)) hF.out,YHl _ _ _ _⟩
   case pos =>
    have q3n:(nb !=0)=false:=by simp[bne,q3]
    have hF:=Zg (show (x)=R by first|exact hR|(rw[←hR];simp[q1,q2,q3]));clear hR;have h0:=Zg h0;go_enter func17,ntmps17;go_wp2_with fail;obtain⟨W,yy,hW,⟨z,hz⟩,cb0,cb1,cb2⟩:=TR V _ _ _ 33 79 60;rw[hW];have c0_0:=cb0 0 _ rfl;have c0_1:=cb0 1 _ rfl;have c0_2:=cb0 2 _ rfl;have c0_3:=cb0 3 _ rfl;have c0_4:=cb0 4 _ rfl;have c0_5:=cb0 5 _ rfl;have c0_6:=cb0 6 _ rfl;have c0_7:=cb0 7 _ rfl;have c0_8:=cb0 8 _ rfl;have c0_9:=cb0 9 _ rfl;have c0_10:=cb0 10 _ rfl;have c0_11:=cb0 11 _ rfl;have c1_0:=cb1 0 _ rfl;have c1_1:=cb1 1 _ rfl;have c1_2:=cb1 2 _ rfl;have c1_3:=cb1 3 _ rfl;have c1_4:=cb1 4 _ rfl;have c1_5:=cb1 5 _ rfl;have c2_0:=cb2 0 _ rfl;have c2_1:=cb2 1 _ rfl;have u0c:=Zg (Zy hz h0.out);have Zw:=Zg hz;clear hW hz cb0 cb1 cb2;refine (u0c.out _).mono ?_;rintro r w' ⟨rfl,x1,rfl⟩;go_wp2_with fail;go_ret;exact⟨congrArg (fun z=>Zf (Zt .i64 z)) hF.out,by rw[Zw.out,Zx];exact⟨_,rfl⟩⟩
theorem Gh(q0n q0c:Nat)(q1p q1n q1c q2p q2n q2c q3p q3n q3c q4p q4n q4c q5p q5n q5c q6p q6n q6c q7p q7n q7c q8p q8n q8c q9p q9n q9c q10p q10n q10c q11p q11n q11c act nw nb vh vl x sp)(aa:Addr)(k sn sc:Nat)(w:World)(hk:k<q0n)(hd:ZG w (aa.add k) [.slice sp sn sc])(h0:Kp Zr w 41 #[.slice sp sn sc,.int .i64 nb] (.int .i64 x)) :
  Kp Zr w 17 #[.agg #[.slice (some aa) q0n q0c,.slice q1p q1n q1c,.slice q2p q2n q2c,.slice q3p q3n q3c,.slice q4p q4n q4c,.slice q5p q5n q5c,.slice q6p q6n q6c,.slice q7p q7n q7c,.slice q8p q8n q8c,.slice q9p q9n q9c,.slice q10p q10n q10c,.slice q11p q11n q11c],.int .i64 act,.agg #[.int .u8 2,.int .i64 nw,.int .i64 (k:Int),.int .i64 nb,.int .u64 vh,.int .u64 vl]] (.int .i64 (if vh==0&&vl==0 then x else 0)):=by
 intro y0;have h0:=h0.up y0;have hd:=hd.plus y0;have k0:¬((k:Int)<0):=by omega
 have k1:(k:Int)<(q0n:Int):=by omega
 have k2:(0:Int)≤(k:Int):=by omega
 have k3:decide ((0:Int)≤(k:Int))=true:=decide_eq_true k2;have k4:decide ((k:Int)<(q0n:Int))=true:=decide_eq_true k1;obtain⟨V,hV⟩:=Zv (plus w y0);rw[hV]at h0 hd ⊢;clear hV;obtain⟨R,hR⟩:=Zv ((if vh==0&&vl==0 then x else 0):Int);rw[hR];by_cases q1:(vh==0)=true
 case neg =>
  have q1:(vh==0)=false:=by simpa using q1
  have q1n:(vh !=0)=true:=by simp[bne,q1]
  have hF:=Zg (show (0)=R by first|exact hR|(rw[←hR];simp[q1]));clear hR;clear h0;go_enter func17,ntmps17;go_wp2_with fail;go_ret;exact⟨congrArg (fun z=>Zf (Zt .i64 z)) hF.out,YHl _ _ _ _⟩
 case pos =>
  have q1n:(vh !=0)=false:=by simp[bne,q1]
  by_cases q2:(vl==0)=true
  case neg =>
   have q2:(vl==0)=false:=by simpa using q2
   have q2n:(vl !=0)=true:=by simp[bne,q2]
   have hF:=Zg (show (0)=R by first|exact hR|(rw[←hR];simp[q1,q2]));clear hR;clear h0;go_enter func17,ntmps17;go_wp2_with fail;go_ret;exact⟨congrArg (fun z=>Zf (Zt .i64 z)) hF.out,YHl _ _ _ _⟩
  case pos =>
   have q2n:(vl !=0)=false:=by simp[bne,q2]
   have hF:=Zg (show (x)=R by first|exact hR|(rw[←hR];simp[q1,q2]));clear hR;have h0:=Zg h0;go_enter func17,ntmps17;go_wp2_with fail;obtain⟨W,yy,hW,⟨z,hz⟩,cb0,cb1,cb2⟩:=TR V _ _ _ 33 79 60;rw[hW];have c0_0:=cb0 0 _ rfl;have c0_1:=cb0 1 _ rfl;have c0_2:=cb0 2 _ rfl;have c0_3:=cb0 3 _ rfl;have c0_4:=cb0 4 _ rfl;have c0_5:=cb0 5 _ rfl;have c0_6:=cb0 6 _ rfl;have c0_7:=cb0 7 _ rfl;have c0_8:=cb0 8 _ rfl;have c0_9:=cb0 9 _ rfl;have c0_10:=cb0 10 _ rfl;have c0_11:=cb0 11 _ rfl;have c1_0:=cb1 0 _ rfl;have c1_1:=cb1 1 _ rfl;have c1_2:=cb1 2 _ rfl;have c1_3:=cb1 3 _ rfl;have c1_4:=cb1 4 _ rfl;have c1_5:=cb1 5 _ rfl;have c2_0:=cb2 0 _ rfl;have c2_1:=cb2 1 _ rfl;have u0c:=Zg (Zy hz h0.out);have d0:∀y,(Go.Proofs.YtheaknidbcbneaaGreat.plus W y).cell? (aa.add k)=some (.slice sp sn sc):=fun y=>by rw[hz];exact ((hd.plus z).plus y).c0 _ rfl
   clear hd;have Zw:=Zg hz;clear hW hz cb0 cb1 cb2;refine ZP (by kernel_rfl) (by kernel_rfl) ?_;repeat (go_big_quiet_step (first|(with_reducible exact u0c.out _)))
   refine wpQuiet_nil ?_;rintro _ ⟨y1,rfl⟩;go_wp2_with fail;go_ret;exact⟨congrArg (fun z=>Zf (Zt .i64 z)) hF.out,by rw[Zw.out,Zx];exact⟨_,rfl⟩⟩
theorem Gj(q0p q0n q0c q1p q1n q1c q2p q2n q2c q3p q3n q3c q4p q4n q4c q5p q5n q5c q6p q6n q6c q7p q7n q7c q8p q8n q8c q9p q9n q9c q10p q10n q10c q11p q11n q11c)(act nw na nb vh vl:Int)(w)(ho:na<0) :
  Kp Zr w 17 #[.agg #[.slice q0p q0n q0c,.slice q1p q1n q1c,.slice q2p q2n q2c,.slice q3p q3n q3c,.slice q4p q4n q4c,.slice q5p q5n q5c,.slice q6p q6n q6c,.slice q7p q7n q7c,.slice q8p q8n q8c,.slice q9p q9n q9c,.slice q10p q10n q10c,.slice q11p q11n q11c],.int .i64 act,.agg #[.int .u8 2,.int .i64 nw,.int .i64 na,.int .i64 nb,.int .u64 vh,.int .u64 vl]] (.int .i64 (0)):=by
 intro y0;have k2:¬(0:Int)≤na:=by omega
 have k3:decide ((0:Int)≤na)=false:=decide_eq_false k2;obtain⟨V,hV⟩:=Zv (plus w y0);rw[hV]at ⊢;clear hV;obtain⟨R,hR⟩:=Zv ((0):Int);rw[hR];by_cases q1:(vh==0)=true
 case neg =>
  have q1:(vh==0)=false:=by simpa using q1
  have q1n:(vh !=0)=true:=by simp[bne,q1]
  have hF:=Zg (show (0)=R by first|exact hR|(rw[←hR];simp[q1]));clear hR;go_enter func17,ntmps17;go_wp2_with fail;go_ret;exact⟨congrArg (fun z=>Zf (Zt .i64 z)) hF.out,YHl _ _ _ _⟩
 case pos =>
  have q1n:(vh !=0)=false:=by simp[bne,q1]
  by_cases q2:(vl==0)=true
  case neg =>
   have q2:(vl==0)=false:=by simpa using q2
   have q2n:(vl !=0)=true:=by simp[bne,q2]
   have hF:=Zg (show (0)=R by first|exact hR|(rw[←hR];simp[q1,q2]));clear hR;go_enter func17,ntmps17;go_wp2_with fail;go_ret;exact⟨congrArg (fun z=>Zf (Zt .i64 z)) hF.out,YHl _ _ _ _⟩
  case pos =>
   have q2n:(vl !=0)=false:=by simp[bne,q2]
   have hF:=Zg (show (0)=R by first|exact hR|(rw[←hR];simp[q1,q2]));clear hR;go_enter func17,ntmps17;go_wp2_with fail;go_ret;exact⟨congrArg (fun z=>Zf (Zt .i64 z)) hF.out,YHl _ _ _ _⟩
theorem Gn(q0p q0n q0c q1p q1n q1c q2p q2n q2c q3p q3n q3c q4p q4n q4c q5p q5n q5c q6p q6n q6c q7p q7n q7c q8p q8n q8c q9p q9n q9c q10p q10n q10c q11p q11n q11c)(act nw na nb vh vl:Int)(w)(ho:act<0) :
  Kp Zr w 17 #[.agg #[.slice q0p q0n q0c,.slice q1p q1n q1c,.slice q2p q2n q2c,.slice q3p q3n q3c,.slice q4p q4n q4c,.slice q5p q5n q5c,.slice q6p q6n q6c,.slice q7p q7n q7c,.slice q8p q8n q8c,.slice q9p q9n q9c,.slice q10p q10n q10c,.slice q11p q11n q11c],.int .i64 act,.agg #[.int .u8 4,.int .i64 nw,.int .i64 na,.int .i64 nb,.int .u64 vh,.int .u64 vl]] (.int .i64 (0)):=by
 intro y0;have k2:¬(0:Int)≤act:=by omega
 have k3:decide ((0:Int)≤act)=false:=decide_eq_false k2;obtain⟨V,hV⟩:=Zv (plus w y0);rw[hV]at ⊢;clear hV;obtain⟨R,hR⟩:=Zv ((0):Int);rw[hR];by_cases q1:(vh==0)=true
 case neg =>
  have q1:(vh==0)=false:=by simpa using q1
  have q1n:(vh !=0)=true:=by simp[bne,q1]
  have hF:=Zg (show (0)=R by first|exact hR|(rw[←hR];simp[q1]));clear hR;go_enter func17,ntmps17;go_wp2_with fail;go_ret;exact⟨congrArg (fun z=>Zf (Zt .i64 z)) hF.out,YHl _ _ _ _⟩
 case pos =>
  have q1n:(vh !=0)=false:=by simp[bne,q1]
  by_cases q2:(vl==0)=true
  case neg =>
   have q2:(vl==0)=false:=by simpa using q2
   have q2n:(vl !=0)=true:=by simp[bne,q2]
   have hF:=Zg (show (0)=R by first|exact hR|(rw[←hR];simp[q1,q2]));clear hR;go_enter func17,ntmps17;go_wp2_with fail;go_ret;exact⟨congrArg (fun z=>Zf (Zt .i64 z)) hF.out,YHl _ _ _ _⟩
  case pos =>
   have q2n:(vl !=0)=false:=by simp[bne,q2]
   by_cases q3:(nb==0)=true
   case neg =>
    have q3:(nb==0)=false:=by simpa using q3
    have q3n:(nb !=0)=true:=by simp[bne,q3]
    have hF:=Zg (show (0)=R by first|exact hR|(rw[←hR];simp[q1,q2,q3]));clear hR;go_enter func17,ntmps17;go_wp2_with fail;go_ret;exact⟨congrArg (fun z=>Zf (Zt .i64 z)) hF.out,YHl _ _ _ _⟩
   case pos =>
    have q3n:(nb !=0)=false:=by simp[bne,q3]
    have hF:=Zg (show (0)=R by first|exact hR|(rw[←hR];simp[q1,q2,q3]));clear hR;go_enter func17,ntmps17;go_wp2_with fail;go_ret;exact⟨congrArg (fun z=>Zf (Zt .i64 z)) hF.out,YHl _ _ _ _⟩
theorem Gk(q0p)(q0n q0c:Nat)(q1p q1n q1c q2p q2n q2c q3p q3n q3c q4p q4n q4c q5p q5n q5c q6p q6n q6c q7p q7n q7c q8p q8n q8c q9p q9n q9c q10p q10n q10c q11p q11n q11c)(act nw na nb vh vl:Int)(w)(ho:(q0n:Int)≤na) :
  Kp Zr w 17 #[.agg #[.slice q0p q0n q0c,.slice q1p q1n q1c,.slice q2p q2n q2c,.slice q3p q3n q3c,.slice q4p q4n q4c,.slice q5p q5n q5c,.slice q6p q6n q6c,.slice q7p q7n q7c,.slice q8p q8n q8c,.slice q9p q9n q9c,.slice q10p q10n q10c,.slice q11p q11n q11c],.int .i64 act,.agg #[.int .u8 2,.int .i64 nw,.int .i64 na,.int .i64 nb,.int .u64 vh,.int .u64 vl]] (.int .i64 (0)):=by
 intro y0;have k2:(0:Int)≤na:=by omega
 have k3:decide ((0:Int)≤na)=true:=decide_eq_true k2;have k4:¬na<(q0n:Int):=by omega
 have k5:decide (na<(q0n:Int))=false:=decide_eq_false k4;obtain⟨V,hV⟩:=Zv (plus w y0);rw[hV]at ⊢;clear hV;obtain⟨R,hR⟩:=Zv ((0):Int);rw[hR];by_cases q1:(vh==0)=true
 case neg =>
  have q1:(vh==0)=false:=by simpa using q1
  have q1n:(vh !=0)=true:=by simp[bne,q1]
  have hF:=Zg (show (0)=R by first|exact hR|(rw[←hR];simp[q1]));clear hR;go_enter func17,ntmps17;go_wp2_with fail;go_ret;exact⟨congrArg (fun z=>Zf (Zt .i64 z)) hF.out,YHl _ _ _ _⟩
 case pos =>
  have q1n:(vh !=0)=false:=by simp[bne,q1]
  by_cases q2:(vl==0)=true
  case neg =>
   have q2:(vl==0)=false:=by simpa using q2
   have q2n:(vl !=0)=true:=by simp[bne,q2]
   have hF:=Zg (show (0)=R by first|exact hR|(rw[←hR];simp[q1,q2]));clear hR;go_enter func17,ntmps17;go_wp2_with fail;go_ret;exact⟨congrArg (fun z=>Zf (Zt .i64 z)) hF.out,YHl _ _ _ _⟩
  case pos =>
   have q2n:(vl !=0)=false:=by simp[bne,q2]
   have hF:=Zg (show (0)=R by first|exact hR|(rw[←hR];simp[q1,q2]));clear hR;go_enter func17,ntmps17;go_wp2_with fail;go_ret;exact⟨congrArg (fun z=>Zf (Zt .i64 z)) hF.out,YHl _ _ _ _⟩
theorem Gp(q0p q0n q0c q1p q1n q1c q2p q2n q2c q3p)(q3n q3c:Nat)(q4p q4n q4c q5p q5n q5c q6p q6n q6c q7p q7n q7c q8p q8n q8c q9p q9n q9c q10p q10n q10c q11p q11n q11c)(act nw na nb vh vl:Int)(w)(ho:(q3n:Int)≤act) :
  Kp Zr w 17 #[.agg #[.slice q0p q0n q0c,.slice q1p q1n q1c,.slice q2p q2n q2c,.slice q3p q3n q3c,.slice q4p q4n q4c,.slice q5p q5n q5c,.slice q6p q6n q6c,.slice q7p q7n q7c,.slice q8p q8n q8c,.slice q9p q9n q9c,.slice q10p q10n q10c,.slice q11p q11n q11c],.int .i64 act,.agg #[.int .u8 4,.int .i64 nw,.int .i64 na,.int .i64 nb,.int .u64 vh,.int .u64 vl]] (.int .i64 (0)):=by
 intro y0;have k2:(0:Int)≤act:=by omega
 have k3:decide ((0:Int)≤act)=true:=decide_eq_true k2;have k4:¬act<(q3n:Int):=by omega
 have k5:decide (act<(q3n:Int))=false:=decide_eq_false k4;obtain⟨V,hV⟩:=Zv (plus w y0);rw[hV]at ⊢;clear hV;obtain⟨R,hR⟩:=Zv ((0):Int);rw[hR];by_cases q1:(vh==0)=true
 case neg =>
  have q1:(vh==0)=false:=by simpa using q1
  have q1n:(vh !=0)=true:=by simp[bne,q1]
  have hF:=Zg (show (0)=R by first|exact hR|(rw[←hR];simp[q1]));clear hR;go_enter func17,ntmps17;go_wp2_with fail;go_ret;exact⟨congrArg (fun z=>Zf (Zt .i64 z)) hF.out,YHl _ _ _ _⟩
 case pos =>
  have q1n:(vh !=0)=false:=by simp[bne,q1]
  by_cases q2:(vl==0)=true
  case neg =>
   have q2:(vl==0)=false:=by simpa using q2
   have q2n:(vl !=0)=true:=by simp[bne,q2]
   have hF:=Zg (show (0)=R by first|exact hR|(rw[←hR];simp[q1,q2]));clear hR;go_enter func17,ntmps17;go_wp2_with fail;go_ret;exact⟨congrArg (fun z=>Zf (Zt .i64 z)) hF.out,YHl _ _ _ _⟩
  case pos =>
   have q2n:(vl !=0)=false:=by simp[bne,q2]
   by_cases q3:(nb==0)=true
   case neg =>
    have q3:(nb==0)=false:=by simpa using q3
    have q3n:(nb !=0)=true:=by simp[bne,q3]
    have hF:=Zg (show (0)=R by first|exact hR|(rw[←hR];simp[q1,q2,q3]));clear hR;go_enter func17,ntmps17;go_wp2_with fail;go_ret;exact⟨congrArg (fun z=>Zf (Zt .i64 z)) hF.out,YHl _ _ _ _⟩
   case pos =>
    have q3n:(nb !=0)=false:=by simp[bne,q3]
    have hF:=Zg (show (0)=R by first|exact hR|(rw[←hR];simp[q1,q2,q3]));clear hR;go_enter func17,ntmps17;go_wp2_with fail;go_ret;exact⟨congrArg (fun z=>Zf (Zt .i64 z)) hF.out,YHl _ _ _ _⟩
theorem Gm(q0p q0n q0c q1p q1n q1c q2p q2n q2c)(q3n q3c:Nat)(q4p q4n q4c q5p q5n q5c q6p q6n q6c q7p q7n q7c q8p q8n q8c q9p q9n q9c q10p q10n q10c q11p q11n q11c nw na nb vh vl x pp bp)(aa:Addr)(k pn pc bn bc:Nat)(w:World)(hk:k<q3n)(hd:ZG w (aa.add (k*2)) [.slice pp pn pc,.slice bp bn bc])(h0:Kp Zr w 41 #[.slice pp pn pc,.int .i64 na] (.int .i64 x)) :
  Kp Zr w 17 #[.agg #[.slice q0p q0n q0c,.slice q1p q1n q1c,.slice q2p q2n q2c,.slice (some aa) q3n q3c,.slice q4p q4n q4c,.slice q5p q5n q5c,.slice q6p q6n q6c,.slice q7p q7n q7c,.slice q8p q8n q8c,.slice q9p q9n q9c,.slice q10p q10n q10c,.slice q11p q11n q11c],.int .i64 (k:Int),.agg #[.int .u8 4,.int .i64 nw,.int .i64 na,.int .i64 nb,.int .u64 vh,.int .u64 vl]] (.int .i64 (if vh==0&&(vl==0&&nb==0) then x else 0)):=by
 intro y0;have h0:=h0.up y0;have hd:=hd.plus y0;have k0:¬((k:Int)<0):=by omega
 have k1:(k:Int)<(q3n:Int):=by omega
 have k2:(0:Int)≤(k:Int):=by omega
 have k3:decide ((0:Int)≤(k:Int))=true:=decide_eq_true k2;have k4:decide ((k:Int)<(q3n:Int))=true:=decide_eq_true k1;obtain⟨V,hV⟩:=Zv (plus w y0);rw[hV]at h0 hd ⊢;clear hV;obtain⟨R,hR⟩:=Zv ((if vh==0&&(vl==0&&nb==0) then x else 0):Int);rw[hR];by_cases q1:(vh==0)=true
 case neg =>
  have q1:(vh==0)=false:=by simpa using q1
  have q1n:(vh !=0)=true:=by simp[bne,q1]
  have hF:=Zg (show (0)=R by first|exact hR|(rw[←hR];simp[q1]));clear hR;clear h0;go_enter func17,ntmps17;go_wp2_with fail;go_ret;exact⟨congrArg (fun z=>Zf (Zt .i64 z)) hF.out,YHl _ _ _ _⟩
 case pos =>
  have q1n:(vh !=0)=false:=by simp[bne,q1]
  by_cases q2:(vl==0)=true
  case neg =>
   have q2:(vl==0)=false:=by simpa using q2
   have q2n:(vl !=0)=true:=by simp[bne,q2]
   have hF:=Zg (show (0)=R by first|exact hR|(rw[←hR];simp[q1,q2]));clear hR;clear h0;go_enter func17,ntmps17;go_wp2_with fail;go_ret;exact⟨congrArg (fun z=>Zf (Zt .i64 z)) hF.out,YHl _ _ _ _⟩
  case pos =>
   have q2n:(vl !=0)=false:=by simp[bne,q2]
   by_cases q3:(nb==0)=true
   case neg =>
    have q3:(nb==0)=false:=by simpa using q3
    have q3n:(nb !=0)=true:=by simp[bne,q3]
    have hF:=Zg (show (0)=R by first|exact hR|(rw[←hR];simp[q1,q2,q3]));clear hR;clear h0;go_enter func17,ntmps17;go_wp2_with fail;go_ret;exact⟨congrArg (fun z=>Zf (Zt .i64 z)) hF.out,YHl _ _ _ _⟩
   case pos =>
    have q3n:(nb !=0)=false:=by simp[bne,q3]
    have hF:=Zg (show (x)=R by first|exact hR|(rw[←hR];simp[q1,q2,q3]));clear hR;have h0:=Zg h0;go_enter func17,ntmps17;go_wp2_with fail;obtain⟨W,yy,hW,⟨z,hz⟩,cb0,cb1,cb2⟩:=TR V _ _ _ 33 79 60;rw[hW];have c0_0:=cb0 0 _ rfl;have c0_1:=cb0 1 _ rfl;have c0_2:=cb0 2 _ rfl;have c0_3:=cb0 3 _ rfl;have c0_4:=cb0 4 _ rfl;have c0_5:=cb0 5 _ rfl;have c0_6:=cb0 6 _ rfl;have c0_7:=cb0 7 _ rfl;have c0_8:=cb0 8 _ rfl;have c0_9:=cb0 9 _ rfl;have c0_10:=cb0 10 _ rfl;have c0_11:=cb0 11 _ rfl;have c1_0:=cb1 0 _ rfl;have c1_1:=cb1 1 _ rfl;have c1_2:=cb1 2 _ rfl;have c1_3:=cb1 3 _ rfl;have c1_4:=cb1 4 _ rfl;have c1_5:=cb1 5 _ rfl;have c2_0:=cb2 0 _ rfl;have c2_1:=cb2 1 _ rfl;have u0c:=Zg (Zy hz h0.out);have d0:∀y,(Go.Proofs.YtheaknidbcbneaaGreat.plus W y).cell? (aa.add (k*2))=some (.slice pp pn pc):=fun y=>by rw[hz];exact ((hd.plus z).plus y).c0 _ rfl
    clear hd;have Zw:=Zg hz;clear hW hz cb0 cb1 cb2;refine ZP (by kernel_rfl) (by kernel_rfl) ?_;repeat (go_big_quiet_step (first|(with_reducible exact u0c.out _)))
    refine wpQuiet_nil ?_;rintro _ ⟨y1,rfl⟩;go_wp2_with fail;go_ret;exact⟨congrArg (fun z=>Zf (Zt .i64 z)) hF.out,by rw[Zw.out,Zx];exact⟨_,rfl⟩⟩
end Go.Proofs.YtheaknidbcbneaaGreat

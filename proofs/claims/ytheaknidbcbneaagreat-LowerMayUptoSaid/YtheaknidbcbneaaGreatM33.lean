/-
  WHAT IS PROVED HERE: a part of the proof (made narrower and merged by program; the parts: Lpc Lpd Lpg).
-/
import Derived.Test.YtheaknidbcbneaaGreatM17
import Derived.Test.YtheaknidbcbneaaGreatM32
set_option maxRecDepth 100000
set_option maxHeartbeats 8000000
set_option linter.all false
namespace Go.Proofs.YtheaknidbcbneaaGreat
open Go.RowKit Go.Proofs.Tryz
open Bool renaming and_eq_true→Zd,true_and→Ze
open Ending renaming returned→Zf
open Lib renaming hid→Zg
open List renaming drop_of_length_le→Zh,getElem?_eq_some_iff→Zj,mem_of_getElem?→Zl
open Nat renaming le_refl→Zp,zero_le→Zq
open Go.Proofs.Tryz renaming prog→Zr
open Value renaming bool→Zs,int→Zt
open Go.RowKit
theorem JO(q0p q0n q0c q1p q1n q1c q2p q2n q2c q3p q3n q3c q4p q4n q4c q5p q5n q5c q6p q6n q6c q7p q7n q7c q8p q8n q8c q9p q9n q9c q10p q10n q10c q11p q11n q11c)(mr:Nat)(n tp kp rp tn tc kn kc rn rc to_ s0 s1 s2 s3 w)(h0:Kp Zr w 44 #[.slice tp tn tc,.int .i64 0,.int .i64 8,.func (.func 77) #[.agg #[.slice q0p q0n q0c,.slice q1p q1n q1c,.slice q2p q2n q2c,.slice q3p q3n q3c,.slice q4p q4n q4c,.slice q5p q5n q5c,.slice q6p q6n q6c,.slice q7p q7n q7c,.slice q8p q8n q8c,.slice q9p q9n q9c,.slice q10p q10n q10c,.slice q11p q11n q11c,.map (some mr)]] #[]] (.bool s0))(h1:Kp Zr w 78 #[.agg #[.slice q0p q0n q0c,.slice q1p q1n q1c,.slice q2p q2n q2c,.slice q3p q3n q3c,.slice q4p q4n q4c,.slice q5p q5n q5c,.slice q6p q6n q6c,.slice q7p q7n q7c,.slice q8p q8n q8c,.slice q9p q9n q9c,.slice q10p q10n q10c,.slice q11p q11n q11c,.map (some mr)],.int .i64 to_] (.bool s1))(h2:Kp Zr w 79 #[.slice kp kn kc,.int .i64 1,.int .i64 4,.func (.func 80) #[.agg #[.slice q0p q0n q0c,.slice q1p q1n q1c,.slice q2p q2n q2c,.slice q3p q3n q3c,.slice q4p q4n q4c,.slice q5p q5n q5c,.slice q6p q6n q6c,.slice q7p q7n q7c,.slice q8p q8n q8c,.slice q9p q9n q9c,.slice q10p q10n q10c,.slice q11p q11n q11c,.map (some mr)]] #[]] (.bool s2))(h3:s2=true→∀(W:World) (c0:Nat),(∃z,W=plus w z)→ZG W ⟨c0,0,none⟩ [.slice q0p q0n q0c,.slice q1p q1n q1c,.slice q2p q2n q2c,.slice q3p q3n q3c,.slice q4p q4n q4c,.slice q5p q5n q5c,.slice q6p q6n q6c,.slice q7p q7n q7c,.slice q8p q8n q8c,.slice q9p q9n q9c,.slice q10p q10n q10c,.slice q11p q11n q11c,.map (some mr)]→ZG W ⟨c0+1,0,none⟩ [.slice tp tn tc,.slice kp kn kc,.slice rp rn rc,.int .i64 to_]→Kp Zr W 81 #[.slice rp rn rc,.int .i64 1,.int .i64 16,.func (.func 82) #[] #[.pointer (some ⟨c0,0,none⟩),.pointer (some ⟨c0+1,0,none⟩)]] (.bool s3)) :
  Kp Zr w 47 #[.agg #[.slice q0p q0n q0c,.slice q1p q1n q1c,.slice q2p q2n q2c,.slice q3p q3n q3c,.slice q4p q4n q4c,.slice q5p q5n q5c,.slice q6p q6n q6c,.slice q7p q7n q7c,.slice q8p q8n q8c,.slice q9p q9n q9c,.slice q10p q10n q10c,.slice q11p q11n q11c,.map (some mr)],.int .i64 n,.agg #[.slice tp tn tc,.slice kp kn kc,.slice rp rn rc,.int .i64 to_]] (.bool (s0&&(if (kn:Int)==0 then ((rn:Int)==0)&&s1 else (to_==0)&&(s2&&s3)))):=by
 intro y0;have h0:=h0.up y0;have h1:=h1.up y0;have h2:=h2.up y0;obtain⟨V,hV⟩:=Zv (plus w y0);rw[hV]at h0 h1 h2 ⊢;have hV':=Zg hV;clear hV;obtain⟨R,hR⟩:=Zv (s0&&(if (kn:Int)==0 then ((rn:Int)==0)&&s1 else (to_==0)&&(s2&&s3)));rw[hR];cases s0
 case false =>
  have hF:=Zg (show (false)=R by first|exact hR|(rw[←hR];simp));clear hR;clear h1 h2 h3;have h0:=Zg h0;go_enter func47,ntmps47;go_wp2_with fail;obtain⟨W,yy,hW,⟨z,hz⟩,cb0,cb1⟩:=ZF V _ _ 82 49;rw[hW];have c0_0:=cb0 0 _ rfl;have c0_1:=cb0 1 _ rfl;have c0_2:=cb0 2 _ rfl;have c0_3:=cb0 3 _ rfl;have c0_4:=cb0 4 _ rfl;have c0_5:=cb0 5 _ rfl;have c0_6:=cb0 6 _ rfl;have c0_7:=cb0 7 _ rfl;have c0_8:=cb0 8 _ rfl;have c0_9:=cb0 9 _ rfl;have c0_10:=cb0 10 _ rfl;have c0_11:=cb0 11 _ rfl;have c0_12:=cb0 12 _ rfl;have c1_0:=cb1 0 _ rfl;have c1_1:=cb1 1 _ rfl;have c1_2:=cb1 2 _ rfl;have c1_3:=cb1 3 _ rfl;have u0c:=Zg (Zy hz h0.out);have Zw:=Zg hz;clear hW hz cb0 cb1;refine (u0c.out _).mono ?_;rintro r w' ⟨rfl,x1,rfl⟩;go_wp2_with fail;go_ret;exact⟨congrArg (fun z=>Zf (Zs z)) hF.out,by rw[Zw.out,Zx];exact⟨_,rfl⟩⟩
 case true =>
  by_cases q1:((kn:Int)==0)=true
  case neg =>
   have q1:((kn:Int)==0)=false:=by simpa using q1
   by_cases q2:(to_==0)=true
   case neg =>
    have q2:(to_==0)=false:=by simpa using q2
    have qn:(to_ !=0)=true:=by simp[bne,q2]
    have hF:=Zg (show (false)=R by first|exact hR|(rw[←hR];simp[q1,q2]));clear hR;clear h1 h2 h3;have h0:=Zg h0;go_enter func47,ntmps47;go_wp2_with fail;obtain⟨W,yy,hW,⟨z,hz⟩,cb0,cb1⟩:=ZF V _ _ 82 49;rw[hW];have c0_0:=cb0 0 _ rfl;have c0_1:=cb0 1 _ rfl;have c0_2:=cb0 2 _ rfl;have c0_3:=cb0 3 _ rfl;have c0_4:=cb0 4 _ rfl;have c0_5:=cb0 5 _ rfl;have c0_6:=cb0 6 _ rfl;have c0_7:=cb0 7 _ rfl;have c0_8:=cb0 8 _ rfl;have c0_9:=cb0 9 _ rfl;have c0_10:=cb0 10 _ rfl;have c0_11:=cb0 11 _ rfl;have c0_12:=cb0 12 _ rfl;have c1_0:=cb1 0 _ rfl;have c1_1:=cb1 1 _ rfl;have c1_2:=cb1 2 _ rfl;have c1_3:=cb1 3 _ rfl;have u0c:=Zg (Zy hz h0.out);have Zw:=Zg hz;clear hW hz cb0 cb1;refine (u0c.out _).mono ?_;rintro r w' ⟨rfl,x1,rfl⟩;go_wp2_with fail;go_ret;exact⟨congrArg (fun z=>Zf (Zs z)) hF.out,by rw[Zw.out,Zx];exact⟨_,rfl⟩⟩
   case pos =>
    have qn:(to_ !=0)=false:=by simp[bne,q2]
    cases s2
    case false =>
     have hF:=Zg (show (false)=R by first|exact hR|(rw[←hR];simp[q1,q2]));clear hR;clear h1 h3;have h0:=Zg h0;have h2:=Zg h2;go_enter func47,ntmps47;go_wp2_with fail;obtain⟨W,yy,hW,⟨z,hz⟩,cb0,cb1⟩:=ZF V _ _ 82 49;rw[hW];have c0_0:=cb0 0 _ rfl;have c0_1:=cb0 1 _ rfl;have c0_2:=cb0 2 _ rfl;have c0_3:=cb0 3 _ rfl;have c0_4:=cb0 4 _ rfl;have c0_5:=cb0 5 _ rfl;have c0_6:=cb0 6 _ rfl;have c0_7:=cb0 7 _ rfl;have c0_8:=cb0 8 _ rfl;have c0_9:=cb0 9 _ rfl;have c0_10:=cb0 10 _ rfl;have c0_11:=cb0 11 _ rfl;have c0_12:=cb0 12 _ rfl;have c1_0:=cb1 0 _ rfl;have c1_1:=cb1 1 _ rfl;have c1_2:=cb1 2 _ rfl;have c1_3:=cb1 3 _ rfl;have u0c:=Zg (Zy hz h0.out);have u2c:=Zg (Zy hz h2.out);have Zw:=Zg hz;clear hW hz cb0 cb1;refine (u0c.out _).mono ?_;rintro r w' ⟨rfl,x1,rfl⟩;go_wp2_with (first|(go_at_call 79;with_reducible refine (u2c.out _).mono ?_;rintro r w' ⟨rfl,x,rfl⟩));go_ret;exact⟨congrArg (fun z=>Zf (Zs z)) hF.out,by rw[Zw.out,Zx];exact⟨_,rfl⟩⟩
    case true =>
     cases s3
     case false =>
      have hF:=Zg (show (false)=R by first|exact hR|(rw[←hR];simp[q1,q2]));clear hR;clear h1;have h0:=Zg h0;have h2:=Zg h2;have h3:=Zg h3;go_enter func47,ntmps47;go_wp2_with fail;obtain⟨W,yy,hW,⟨z,hz⟩,cb0,cb1⟩:=ZF V _ _ 82 49;rw[hW];have c0_0:=cb0 0 _ rfl;have c0_1:=cb0 1 _ rfl;have c0_2:=cb0 2 _ rfl;have c0_3:=cb0 3 _ rfl;have c0_4:=cb0 4 _ rfl;have c0_5:=cb0 5 _ rfl;have c0_6:=cb0 6 _ rfl;have c0_7:=cb0 7 _ rfl;have c0_8:=cb0 8 _ rfl;have c0_9:=cb0 9 _ rfl;have c0_10:=cb0 10 _ rfl;have c0_11:=cb0 11 _ rfl;have c0_12:=cb0 12 _ rfl;have c1_0:=cb1 0 _ rfl;have c1_1:=cb1 1 _ rfl;have c1_2:=cb1 2 _ rfl;have c1_3:=cb1 3 _ rfl;have u0c:=Zg (Zy hz h0.out);have u2c:=Zg (Zy hz h2.out);have u3c:=Zg (h3.out (by trivial) W V.heap.size (by rw[hz,←hV'.out,Zx];exact⟨_,rfl⟩) (WV cb0) (WV cb1)).pure;have Zw:=Zg hz;clear hW hz cb0 cb1;refine (u0c.out _).mono ?_;rintro r w' ⟨rfl,x1,rfl⟩;go_wp2_with (first|(go_at_call 79;with_reducible refine (u2c.out _).mono ?_;rintro r w' ⟨rfl,x,rfl⟩)|(go_at_call 81;with_reducible refine (u3c.out _).mono ?_;rintro r w' ⟨rfl,x,rfl⟩));go_ret;exact⟨congrArg (fun z=>Zf (Zs z)) hF.out,by rw[Zw.out,Zx];exact⟨_,rfl⟩⟩
     case true =>
      have hF:=Zg (show (true)=R by first|exact hR|(rw[←hR];simp[q1,q2]));clear hR;clear h1;have h0:=Zg h0;have h2:=Zg h2;have h3:=Zg h3;go_enter func47,ntmps47;go_wp2_with fail;obtain⟨W,yy,hW,⟨z,hz⟩,cb0,cb1⟩:=ZF V _ _ 82 49;rw[hW];have c0_0:=cb0 0 _ rfl;have c0_1:=cb0 1 _ rfl;have c0_2:=cb0 2 _ rfl;have c0_3:=cb0 3 _ rfl;have c0_4:=cb0 4 _ rfl;have c0_5:=cb0 5 _ rfl;have c0_6:=cb0 6 _ rfl;have c0_7:=cb0 7 _ rfl;have c0_8:=cb0 8 _ rfl;have c0_9:=cb0 9 _ rfl;have c0_10:=cb0 10 _ rfl;have c0_11:=cb0 11 _ rfl;have c0_12:=cb0 12 _ rfl;have c1_0:=cb1 0 _ rfl;have c1_1:=cb1 1 _ rfl;have c1_2:=cb1 2 _ rfl;have c1_3:=cb1 3 _ rfl;have u0c:=Zg (Zy hz h0.out);have u2c:=Zg (Zy hz h2.out);have u3c:=Zg (h3.out (by trivial) W V.heap.size (by rw[hz,←hV'.out,Zx];exact⟨_,rfl⟩) (WV cb0) (WV cb1)).pure;have Zw:=Zg hz;clear hW hz cb0 cb1;refine (u0c.out _).mono ?_;rintro r w' ⟨rfl,x1,rfl⟩;go_wp2_with (first|(go_at_call 79;with_reducible refine (u2c.out _).mono ?_;rintro r w' ⟨rfl,x,rfl⟩)|(go_at_call 81;with_reducible refine (u3c.out _).mono ?_;rintro r w' ⟨rfl,x,rfl⟩));go_ret;exact⟨congrArg (fun z=>Zf (Zs z)) hF.out,by rw[Zw.out,Zx];exact⟨_,rfl⟩⟩
  case pos =>
   by_cases q3:((rn:Int)==0)=true
   case neg =>
    have q3:((rn:Int)==0)=false:=by simpa using q3
    have hF:=Zg (show (false)=R by first|exact hR|(rw[←hR];simp[q1,q3]));clear hR;clear h1 h2 h3;have h0:=Zg h0;go_enter func47,ntmps47;go_wp2_with fail;obtain⟨W,yy,hW,⟨z,hz⟩,cb0,cb1⟩:=ZF V _ _ 82 49;rw[hW];have c0_0:=cb0 0 _ rfl;have c0_1:=cb0 1 _ rfl;have c0_2:=cb0 2 _ rfl;have c0_3:=cb0 3 _ rfl;have c0_4:=cb0 4 _ rfl;have c0_5:=cb0 5 _ rfl;have c0_6:=cb0 6 _ rfl;have c0_7:=cb0 7 _ rfl;have c0_8:=cb0 8 _ rfl;have c0_9:=cb0 9 _ rfl;have c0_10:=cb0 10 _ rfl;have c0_11:=cb0 11 _ rfl;have c0_12:=cb0 12 _ rfl;have c1_0:=cb1 0 _ rfl;have c1_1:=cb1 1 _ rfl;have c1_2:=cb1 2 _ rfl;have c1_3:=cb1 3 _ rfl;have u0c:=Zg (Zy hz h0.out);have Zw:=Zg hz;clear hW hz cb0 cb1;refine (u0c.out _).mono ?_;rintro r w' ⟨rfl,x1,rfl⟩;go_wp2_with fail;go_ret;exact⟨congrArg (fun z=>Zf (Zs z)) hF.out,by rw[Zw.out,Zx];exact⟨_,rfl⟩⟩
   case pos =>
    cases s1
    case false =>
     have hF:=Zg (show (false)=R by first|exact hR|(rw[←hR];simp[q1,q3]));clear hR;clear h2 h3;have h0:=Zg h0;have h1:=Zg h1;go_enter func47,ntmps47;go_wp2_with fail;obtain⟨W,yy,hW,⟨z,hz⟩,cb0,cb1⟩:=ZF V _ _ 82 49;rw[hW];have c0_0:=cb0 0 _ rfl;have c0_1:=cb0 1 _ rfl;have c0_2:=cb0 2 _ rfl;have c0_3:=cb0 3 _ rfl;have c0_4:=cb0 4 _ rfl;have c0_5:=cb0 5 _ rfl;have c0_6:=cb0 6 _ rfl;have c0_7:=cb0 7 _ rfl;have c0_8:=cb0 8 _ rfl;have c0_9:=cb0 9 _ rfl;have c0_10:=cb0 10 _ rfl;have c0_11:=cb0 11 _ rfl;have c0_12:=cb0 12 _ rfl;have c1_0:=cb1 0 _ rfl;have c1_1:=cb1 1 _ rfl;have c1_2:=cb1 2 _ rfl;have c1_3:=cb1 3 _ rfl;have u0c:=Zg (Zy hz h0.out);have u1c:=Zg (Zy hz h1.out);have Zw:=Zg hz;clear hW hz cb0 cb1;refine (u0c.out _).mono ?_;rintro r w' ⟨rfl,x1,rfl⟩;go_wp2_with (first|(go_at_call 78;with_reducible refine (u1c.out _).mono ?_;rintro r w' ⟨rfl,x,rfl⟩));go_ret;exact⟨congrArg (fun z=>Zf (Zs z)) hF.out,by rw[Zw.out,Zx];exact⟨_,rfl⟩⟩
    case true =>
     have hF:=Zg (show (true)=R by first|exact hR|(rw[←hR];simp[q1,q3]));clear hR;clear h2 h3;have h0:=Zg h0;have h1:=Zg h1;go_enter func47,ntmps47;go_wp2_with fail;obtain⟨W,yy,hW,⟨z,hz⟩,cb0,cb1⟩:=ZF V _ _ 82 49;rw[hW];have c0_0:=cb0 0 _ rfl;have c0_1:=cb0 1 _ rfl;have c0_2:=cb0 2 _ rfl;have c0_3:=cb0 3 _ rfl;have c0_4:=cb0 4 _ rfl;have c0_5:=cb0 5 _ rfl;have c0_6:=cb0 6 _ rfl;have c0_7:=cb0 7 _ rfl;have c0_8:=cb0 8 _ rfl;have c0_9:=cb0 9 _ rfl;have c0_10:=cb0 10 _ rfl;have c0_11:=cb0 11 _ rfl;have c0_12:=cb0 12 _ rfl;have c1_0:=cb1 0 _ rfl;have c1_1:=cb1 1 _ rfl;have c1_2:=cb1 2 _ rfl;have c1_3:=cb1 3 _ rfl;have u0c:=Zg (Zy hz h0.out);have u1c:=Zg (Zy hz h1.out);have Zw:=Zg hz;clear hW hz cb0 cb1;refine (u0c.out _).mono ?_;rintro r w' ⟨rfl,x1,rfl⟩;go_wp2_with (first|(go_at_call 78;with_reducible refine (u1c.out _).mono ?_;rintro r w' ⟨rfl,x,rfl⟩));go_ret;exact⟨congrArg (fun z=>Zf (Zs z)) hF.out,by rw[Zw.out,Zx];exact⟨_,rfl⟩⟩
theorem KL(p)(n c:Nat)(lo hi:Int)(F:Value)(w)(h:¬(lo≤(n:Int)∧(n:Int)≤hi)):Kp Zr w 83 #[.slice p n c,.int .i64 lo,.int .i64 hi,F] (.bool false):=by
 intro y0;obtain⟨W,hW⟩:=Zv (plus w y0);rw[hW];clear hW;by_cases h1:(n:Int)<lo
 case pos =>
  clear h;go_enter func83,ntmps83;go_wp2;go_ret;exact⟨rfl,_,(ZK W).symm⟩
 have h2:hi<(n:Int):=by omega
 clear h;go_enter func83,ntmps83;go_wp2;go_ret;exact⟨rfl,_,(ZK W).symm⟩
theorem QJ{α:Type}{f:Nat→α→Bool}:∀(l:List α) (k:Nat),ZU f k l=true→∀i x,l[i]?=some x→f (k+i) x=true
 | [],k,_,i,x,hx=>by simp at hx
 | a :: l,k,h,0,x,hx=>by
  simp only[List.getElem?_cons_zero,Option.some.injEq]at hx;subst hx;rw[ZU,Zd]at h;exact h.1
 | a :: l,k,h,i+1,x,hx=>by
  rw[ZU,Zd]at h;rw[List.getElem?_cons_succ]at hx;have:=QJ l (k+1) h.2 i x hx;rwa [show k+1+i=k+(i+1) by omega]at this
theorem RN{α:Type}{f:Nat→α→Bool}{lo hi:Int}{l:List α}(h:ZM lo hi f l=true){i:Nat}{x:α}(hx:l[i]?=some x):f i x=true:=by
 unfold ZM at h;rw[Zd]at h;have:=QJ l 0 h.2 i x hx;rwa [Nat.zero_add]at this
theorem MJ{α:Type}{f:Nat→α→Bool}{lo hi:Int}{l:List α}(h:¬(lo≤(l.length:Int)∧(l.length:Int)≤hi)):ZM lo hi f l=false:=by
 unfold ZM;by_cases h1:lo≤(l.length:Int)
 ·rw[decide_eq_false (show ¬(l.length:Int)≤hi from fun c=>h ⟨h1,c⟩),Bool.and_false,Bool.false_and]
 ·rw[decide_eq_false h1,Bool.false_and,Bool.false_and]
theorem LA{p:Pg}{c:Sl Nd}(h:Ur p c=true):c.l≠[]:=fun e=>by
 unfold Ur at h;rw[e]at h;simp[YR,Wo,Wz]at h
def Sg(s:Sp)(i:Nat)(x:Pt):Bool:=Sf x (match s.keys.l[i]? with|some c=>WI c.l|none=>0)
def Sn(p:Pg)(s:Sp)(b:Br):Bool:=Tz p b.dest&&ZM (s.keys.l.length:Int) (s.keys.l.length:Int) (Sg s) b.pats.l
def Tx(p:Pg)(s:Sp):Bool:=ZM 0 8 (fun _ n=>YE n p.heads.l.length) s.takes.l&&(if (s.keys.l.length:Int)==0 then ((s.branches.l.length:Int)==0)&&Tz p s.dest else (s.dest==0)&&(ZM 1 4 (fun _ c=>Ur p c) s.keys.l&&ZM 1 16 (fun _ b=>Sn p s b) s.branches.l))
theorem Hq(x:Pt):OT x.cells:=⟨_,_,_,_,rfl⟩
theorem Mc(x:Br):OQ x.cells:=⟨_,_,_,_,rfl⟩
theorem KI(p:Pg)(mr n:Nat)(s:Sp)(b:Br)(w:World)(hs:s.In w)(hb:b.In w)(hk:∀c∈s.keys.l,Ur p c=true)(h1:b.pats.l.length≤1048576)(b0 b1:Nat)(hc:ZG w ⟨b0,0,none⟩ [p.heads.v,p.metas.v,p.steps.v,p.acts.v,p.tabs.v,p.control.v,p.emit.v,p.names.headers.v,p.names.fields.v,p.names.metas.v,p.names.actions.v,p.names.tables.v,.map (some mr)])(ZB:ZG w ⟨b1,0,none⟩ s.cells) :
  Kp Zr w 82 #[.int .i64 (n:Int),.agg #[b.pats.v,.int .i64 b.dest],.pointer (some ⟨b0,0,none⟩),.pointer (some ⟨b1,0,none⟩)] (.bool (Sn p s b)):=by
 refine KH _ _ _ _ _ _ _ _ _ _ _ _ _ _ _ _ _ _ _ _ _ _ _ _ _ _ _ _ _ _ _ _ _ _ _ _ _ (n:Int) b.pats.p b.pats.l.length b.pats.cap b.dest b0 b1 s.takes.p s.keys.p s.branches.p s.takes.l.length s.takes.cap s.keys.l.length s.keys.cap s.branches.l.length s.branches.cap s.dest _ _ w hc ZB (PO p mr b.dest w) ?_;by_cases hl:b.pats.l.length=s.keys.l.length
 ·refine MP Pt.cells Hq (Sg s) 84 #[] #[.pointer (some ⟨b1,0,none⟩)] Pt.In w b.pats _ _ hb.pats h1 (enters_of func84 (by kernel_rfl) rfl) (fun i x hx=>?_)
  have hi:i<s.keys.l.length:=by have:=(Zj.1 hx).1;omega
  obtain⟨c,hcx⟩:=Z6 s.keys.l i hi;obtain⟨ka,eka,hd⟩:=hs.keys.row i c hcx;rw[Nat.mul_one]at hd;have hcm:=Zl hcx;have hv:Sg s i x=Sf x (WI c.l):=by unfold Sg;rw[hcx]
  rw[hv];have ZD:ZG w ⟨b1,0,none⟩ [s.takes.v,.slice (some ka) s.keys.l.length s.keys.cap,s.branches.v,.int .i64 s.dest]:=by rw[←eka];exact ZB
  exact JL x.v.h x.v.l x.m.h x.m.l i b1 ka _ _ _ _ s.keys.l.length s.keys.cap _ _ _ c.p c.l.length c.cap (WI c.l) _ w hi ZD hd (Jf c w (hs.keys.kids c hcm) (LA (hk c hcm))) (JM x (WI c.l) w (hb.pats.kids x (Zl hx)))
 ·have hno:¬((s.keys.l.length:Int)≤(b.pats.l.length:Int)∧(b.pats.l.length:Int)≤(s.keys.l.length:Int)):=by omega
  rw[MJ hno];exact KL b.pats.p b.pats.l.length b.pats.cap _ _ _ w hno
theorem JN(p:Pg)(mr n:Nat)(s:Sp)(w:World)(hp:p.In w)(hz:p.sz≤1048576)(hm:Yf w mr (X9 20))(hs:s.In w)(Yq:s.sz≤1048576) :
  Kp Zr w 47 #[X0 p mr,.int .i64 (n:Int),.agg #[s.takes.v,s.keys.v,s.branches.v,.int .i64 s.dest]] (.bool (Tx p s)):=by
 have l1:=Yw YL (fun _=>Zp _) s.takes.l;have l2:=Yw (Xk Nd.sz) (fun _=>by unfold Xk;omega) s.keys.l;have l3:=Yw Br.sz (fun _=>by unfold Br.sz;omega) s.branches.l;have hsz':=Yq;unfold Sp.sz Sl.size at hsz';refine JO _ _ _ _ _ _ _ _ _ _ _ _ _ _ _ _ _ _ _ _ _ _ _ _ _ _ _ _ _ _ _ _ _ _ _ _ _ (n:Int) s.takes.p s.keys.p s.branches.p s.takes.l.length s.takes.cap s.keys.l.length s.keys.cap s.branches.l.length s.branches.cap s.dest _ _ _ _ w
  (Ss (fun _ n=>YE n p.heads.l.length) 77 #[X0 p mr] #[] (Yg .i64) w s.takes 0 8 hs.takes (by omega) (enters_of func77 (by kernel_rfl) rfl) (fun j x _=>KU p mr (j:Int) x w))
  (PO p mr s.dest w)
  (Pc (fun _ c=>Ur p c) 80 #[X0 p mr] #[] _ w s.keys 1 4 hs.keys (by omega) (enters_of func80 (by kernel_rfl) rfl) (fun j c hc=>PJ p mr j c w hp hz hm (hs.keys.kids c (Zl hc))))
  (fun hk W c0 hW hc ZB=>?_)
 obtain⟨z,rfl⟩:=hW;have hbr:=hs.branches.plus (fun y (h:Br.In w y)=>h.plus z) z;exact MM Br.cells Mc (fun _ b=>Sn p s b) 82 #[] #[.pointer (some ⟨c0,0,none⟩),.pointer (some ⟨c0+1,0,none⟩)] _ _ s.branches 1 16 hbr (by omega) (enters_of func82 (by kernel_rfl) rfl) (fun j b hb=>by
  have hbm:=Zl hb;have l4:=We Br.sz s.branches.l b hbm;have l5:=Yw Pt.sz (fun _=>by unfold Pt.sz;omega) b.pats.l;have l6:b.pats.l.length≤b.sz:=by unfold Br.sz Sl.size;omega
  exact KI p mr j s b _ (hs.plus z) (hbr.kids b hbm) (fun c hcm=>by
   obtain⟨i,hi⟩:=List.getElem?_of_mem hcm;exact RN hk hi) (by omega) c0 (c0+1) hc ZB)
def X7(m:Nat)(l:List Int)(n:Nat)(x:Int):Bool:=YE x m&&!((l.take n).any fun y=>x==y)
theorem Ro{α:Type}{w:World}{C:Nat}{cells:α→List Value}{p:Option Addr}{l:List α}(h:Z2 w C cells p l)(n:Nat):Z2 w C cells p (l.take n):=fun i x hx=>by
 rw[List.getElem?_take]at hx;split at hx
 ·exact h i x hx
 ·cases hx
theorem JK(lp hp ln lc hn hc lo hi b)(w:World)(h:∀(W:World) (c0:Nat),(∃z,W=plus w z)→ZG W ⟨c0,0,none⟩ [.slice lp ln lc]→ZG W ⟨c0+1,0,none⟩ [.slice hp hn hc]→Kp Zr W 44 #[.slice lp ln lc,.int .i64 lo,.int .i64 hi,.func (.func 98) #[] #[.pointer (some ⟨c0+1,0,none⟩),.pointer (some ⟨c0,0,none⟩)]] (.bool b)) :
  Kp Zr w 54 #[.slice lp ln lc,.int .i64 lo,.int .i64 hi,.slice hp hn hc] (.bool b):=by
 intro y0;obtain⟨V,hV⟩:=Zv (plus w y0);have h:=h;rw[hV];obtain⟨W,hW,ZY,hz,ca,cb,-⟩:=Vy V #[.slice lp ln lc] #[.slice hp hn hc] 23 22;obtain⟨z,hzW⟩:=ZS ZY;have hE:=Zg (h W V.heap.size (by rw[hzW,←hV,Zx];exact⟨_,rfl⟩) (WV ca) (WV cb)).pure;have d0:=ca 0 _ rfl ⟨#[],W.drawn⟩;rw[ZK]at d0;have Zw:=Zg hzW;clear h hV ZY hz ca cb hzW;go_enter func54,ntmps54;go_upto_region 1 with (fail)
 rw[←hW];clear hW;go_wp2_with fail;refine (Sr hE.out).mono ?_;rintro r w' ⟨rfl,x1,rfl⟩;go_wp2_with fail;go_ret;exact⟨rfl,by rw[Zw.out,Zx];exact⟨_,rfl⟩⟩
theorem JJ(A:Sl Int)(B:Sl (Sl Int))(lo hi)(w:World)(hA:A.In w 1 (Z8 .i64) (Yg .i64))(hl:A.l.length≤1048576) :
  Kp Zr w 54 #[A.v,.int .i64 lo,.int .i64 hi,B.v] (.bool (ZM lo hi (X7 B.l.length A.l) A.l)) :=
 JK A.p B.p A.l.length A.cap B.l.length B.cap lo hi _ w fun W c0 hW hx hy=>by
  obtain⟨z,rfl⟩:=hW;have hAz:=hA.plus (fun _ a=>a) z;refine Ss (X7 B.l.length A.l) 98 #[] #[.pointer (some ⟨c0+1,0,none⟩),.pointer (some ⟨c0,0,none⟩)] (Yg .i64) _ A lo hi hAz hl (enters_of func98 (by kernel_rfl) rfl) (fun i x hi=>?_);have Zz:=(Zj.1 hi).1;obtain⟨la,ela,-⟩:=hAz.row i x hi;have hx':ZG (plus w z) ⟨c0,0,none⟩ [.slice (some la) A.l.length A.cap]:=by rw[←ela];exact hx
  have ZQ:=RY (plus w z) A.p A.cap (A.l.take i) x (Ro hAz.row i) (by rw[List.length_take];omega);rw[ela,List.length_take,Nat.min_eq_left (by omega)]at ZQ;exact JG i (c0+1) c0 x B.p B.l.length B.cap la A.l.length A.cap _ _ _ (by have:=hA.len;omega) hy hx' (SH x B.p B.l.length B.cap _) ZQ
theorem JI(lp hp ln lc hn hc lo hi b)(w:World)(h:∀(W:World) (c0:Nat),(∃z,W=plus w z)→ZG W ⟨c0,0,none⟩ [.slice lp ln lc]→ZG W ⟨c0+1,0,none⟩ [.slice hp hn hc]→Kp Zr W 44 #[.slice lp ln lc,.int .i64 lo,.int .i64 hi,.func (.func 127) #[] #[.pointer (some ⟨c0+1,0,none⟩),.pointer (some ⟨c0,0,none⟩)]] (.bool b)) :
  Kp Zr w 92 #[.slice lp ln lc,.int .i64 lo,.int .i64 hi,.slice hp hn hc] (.bool b):=by
 intro y0;obtain⟨V,hV⟩:=Zv (plus w y0);have h:=h;rw[hV];obtain⟨W,hW,ZY,hz,ca,cb,-⟩:=Vy V #[.slice lp ln lc] #[.slice hp hn hc] 23 25;obtain⟨z,hzW⟩:=ZS ZY;have hE:=Zg (h W V.heap.size (by rw[hzW,←hV,Zx];exact⟨_,rfl⟩) (WV ca) (WV cb)).pure;have d0:=ca 0 _ rfl ⟨#[],W.drawn⟩;rw[ZK]at d0;have Zw:=Zg hzW;clear h hV ZY hz ca cb hzW;go_enter func92,ntmps92;go_upto_region 1 with (fail)
 rw[←hW];clear hW;go_wp2_with fail;refine (Sr hE.out).mono ?_;rintro r w' ⟨rfl,x1,rfl⟩;go_wp2_with fail;go_ret;exact⟨rfl,by rw[Zw.out,Zx];exact⟨_,rfl⟩⟩
theorem JH(A:Sl Int)(B:Sl (At))(lo hi)(w:World)(hA:A.In w 1 (Z8 .i64) (Yg .i64))(hl:A.l.length≤1048576) :
  Kp Zr w 92 #[A.v,.int .i64 lo,.int .i64 hi,B.v] (.bool (ZM lo hi (X7 B.l.length A.l) A.l)) :=
 JI A.p B.p A.l.length A.cap B.l.length B.cap lo hi _ w fun W c0 hW hx hy=>by
  obtain⟨z,rfl⟩:=hW;have hAz:=hA.plus (fun _ a=>a) z;refine Ss (X7 B.l.length A.l) 127 #[] #[.pointer (some ⟨c0+1,0,none⟩),.pointer (some ⟨c0,0,none⟩)] (Yg .i64) _ A lo hi hAz hl (enters_of func127 (by kernel_rfl) rfl) (fun i x hi=>?_);have Zz:=(Zj.1 hi).1;obtain⟨la,ela,-⟩:=hAz.row i x hi;have hx':ZG (plus w z) ⟨c0,0,none⟩ [.slice (some la) A.l.length A.cap]:=by rw[←ela];exact hx
  have ZQ:=RY (plus w z) A.p A.cap (A.l.take i) x (Ro hAz.row i) (by rw[List.length_take];omega);rw[ela,List.length_take,Nat.min_eq_left (by omega)]at ZQ;exact JF i (c0+1) c0 x B.p B.l.length B.cap la A.l.length A.cap _ _ _ (by have:=hA.len;omega) hy hx' (RZ x B.p B.l.length B.cap _) ZQ
def Xl{α β:Type}(f:α→β→Bool):List α→List β→Bool
 | a :: l,b :: m=>f a b&&Xl f l m
 | _,_=>true
theorem QE{α β:Type}(f:α→β→Bool){l:List α}{m:List β}{k:Nat}{a:α}{b:β}(ha:l[k]?=some a)(hb:m[k]?=some b):Xl f (l.drop k) (m.drop k)=(f a b&&Xl f (l.drop (k+1)) (m.drop (k+1))):=by
 obtain⟨h1,rfl⟩:=Zj.1 ha;obtain⟨h2,rfl⟩:=Zj.1 hb;rw[List.drop_eq_getElem_cons h1,List.drop_eq_getElem_cons h2,Xl]
theorem QF{α β:Type}(f:α→β→Bool)(m:List β):Xl f [] m=true:=by cases m <;> rfl
theorem KN(A:Sl (Nu))(B:Sl (Int))(w:World)(Ka:Nu→Prop)(Kb:Int→Prop)(hA:A.In w 2 Nu.cells Ka)(hB:B.In w 1 (Z8 .i64) Kb)(hl:A.l.length≤1048576)(hKa:∀a,Ka a→Nu.In a) :
  Kp Zr w 31 #[A.v,B.v,.func (.func 32) #[] #[]] (.bool (decide (A.l.length=B.l.length)&&Xl (fun (a:Nu) (b:Int)=>decide (a.n % 2 ^ hw b=a.n)) A.l B.l)):=by
 intro y0;obtain⟨p,cap,l⟩:=A;obtain⟨q,caq,m⟩:=B;simp only[Sl.v]at hl ⊢;obtain⟨n,hn⟩:=Zv l.length;obtain⟨n2,XG⟩:=Zv m.length;have kA:=hA.kids;have hA:=hA.row.plus y0;have hB:=hB.row.plus y0;obtain⟨W,hW⟩:=Zv (plus w y0);rw[hW]at hA hB ⊢;rw[hn]at hl;rw[hn,XG];clear hW;have Wb:=fun args w=>enters_of func32 (by kernel_rfl) rfl args w;by_cases he:n=n2
 case neg =>
  have e1:decide (n=n2)=false:=decide_eq_false he;have e2:((n:Int)==(n2:Int))=false:=by simp;omega
  have e3:((n:Int) !=(n2:Int))=true:=by simp[bne,e2]
  rw[e1,Bool.false_and];clear hA hB hn XG kA;go_enter func31,ntmps31;go_wp2;go_ret;exact⟨rfl,_,(ZK W).symm⟩
 subst he;rw[decide_eq_true (rfl:n=n),Ze];obtain⟨R,hR⟩:=Zv (Xl (fun (a:Nu) (b:Int)=>decide (a.n % 2 ^ hw b=a.n)) l m);have h0:Xl (fun (a:Nu) (b:Int)=>decide (a.n % 2 ^ hw b=a.n)) (l.drop 0) (m.drop 0)=R:=hR;rw[hR];have ZR:=Zg hA;have hB':=Zg hB;have ZJ:=Zg hn;have YJ:=Zg XG;have ZX:=Zg hl;have Yd:=Zg h0;have hkA:=Zg kA;clear hA hB hl hn XG hR h0 kA;go_enter func31,ntmps31;go_wp2;go_loopw [7,8,9,17] (fun _ _ _ iv wr=>∃k:Nat,k≤n∧iv=.int .i64 (k:Int)∧Hid (Xl (fun (a:Nu) (b:Int)=>decide (a.n % 2 ^ hw b=a.n)) (l.drop k) (m.drop k)=R)∧∃y,wr=plus W y) (fun _ _ _ iv _=>n-(intOf iv).toNat)
 case atStart=>exact⟨0,Zq _,rfl,Yd,⟨#[],W.drawn⟩,(ZK W).symm⟩
 case round =>
  obtain⟨k,hk,rfl,hs,y,rfl⟩:=hrel;by_cases Zz:k<n
  ·obtain⟨a,ha⟩:=Z6 l k (by rw[ZJ.out];exact Zz)
   obtain⟨b,hb⟩:=Z6 m k (by rw[YJ.out];exact Zz);obtain⟨pa,rfl,hc⟩:=ZR.out k a ha;obtain⟨pb,rfl,hd⟩:=hB'.out k b hb;have ZB:((fun (a:Nu) (b:Int)=>decide (a.n % 2 ^ hw b=a.n)) a b&&Xl (fun (a:Nu) (b:Int)=>decide (a.n % 2 ^ hw b=a.n)) (l.drop (k+1)) (m.drop (k+1)))=R:=by rw[←QE (fun (a:Nu) (b:Int)=>decide (a.n % 2 ^ hw b=a.n)) ha hb];exact hs.out
   have a6:=Zg (Yo k n Zz ZX.out);have k0:¬((k:Int)<0):=by omega
   have k1:(k:Int)<(n:Int):=by omega
   have hka:=hkA.out a (Zl ha);have d0:∀y,(Go.Proofs.YtheaknidbcbneaaGreat.plus W y).cell? _=some (.int .u64 a.h):=fun y=>(hc.plus y).c0 _ rfl;have d1:∀y,(Go.Proofs.YtheaknidbcbneaaGreat.plus W y).cell? _=some (.int .u64 a.l):=fun y=>(hc.plus y).cs 0 _ rfl;have e0:∀y,(Go.Proofs.YtheaknidbcbneaaGreat.plus W y).cell? _=some (.int .i64 b):=fun y=>(hd.plus y).c0 _ rfl;simp only[Nat.mul_one]at e0;have e0':=fun y o=>ZL (e0 y) o;have q1:Kp Zr W 32 #[.agg #[.int .u64 a.h,.int .u64 a.l],.int .i64 b] (.bool (decide (a.n % 2 ^ hw b=a.n))):=by
    rw[Nu.nv_eq (hKa a hka)];exact fun y=>SK a.n b (Nu.n_lt (hKa a hka)) (Go.Proofs.YtheaknidbcbneaaGreat.plus W y)
   have q1':=Zg q1.pure;clear q1;clear hc hd ha hb hs hka;obtain⟨Z,hZ⟩:=Zv ((fun (a:Nu) (b:Int)=>decide (a.n % 2 ^ hw b=a.n)) a b);dsimp only at hZ ZB;rw[hZ]at q1' ZB;clear hZ;cases Z with
   | true =>
    have ZD:=Zg (show Xl (fun (a:Nu) (b:Int)=>decide (a.n % 2 ^ hw b=a.n)) (l.drop (k+1)) (m.drop (k+1))=R by rw[←ZB,Ze]);clear ZB;go_wp2_with (refine XV q1'.out ?_;rintro e w' ⟨rfl,x,rfl⟩);go_roundw
    case rel=>exact⟨k+1,Zz,congrArg (Zt .i64) a6.out,ZD,x,rfl⟩
    case measure=>exact YF k n Zz a6.out
   | false =>
    have ZD:=Zg (show false=R by rw[←ZB,Bool.false_and]);clear ZB;go_wp2_with (refine XV q1'.out ?_;rintro e w' ⟨rfl,x,rfl⟩);go_ret;exact⟨congrArg (fun z=>Zf (Zs z)) ZD.out,x,rfl⟩
  ·obtain rfl:k=n:=by omega
   have ZD:=Zg (show true=R by
    rw[←hs.out,Zh (by rw[ZJ.out];exact Zp _),QF])
   clear hs Zz hk;go_wp2;go_ret;exact⟨congrArg (fun z=>Zf (Zs z)) ZD.out,y,rfl⟩
theorem Jr(ap bp an ac bn bc w) :
  Kp Zr w 100 #[.slice ap an ac,.slice bp bn bc] (.bool ((an:Int)==(bn:Int))):=by
 intro y0;obtain⟨V,hV⟩:=Zv (plus w y0);rw[hV]at ⊢;clear hV;obtain⟨R,hR⟩:=Zv ((an:Int)==(bn:Int));rw[hR];by_cases q1:((an:Int)==(bn:Int))=true
 case neg =>
  have q1:((an:Int)==(bn:Int))=false:=by simpa using q1
  have hF:=Zg (show (false)=R by first|exact hR|(rw[←hR];simp[q1]));clear hR;go_enter func100,ntmps100;go_wp2_with fail;go_ret;exact⟨congrArg (fun z=>Zf (Zs z)) hF.out,YD _⟩
 case pos =>
  have hF:=Zg (show (true)=R by first|exact hR|(rw[←hR];simp[q1]));clear hR;go_enter func100,ntmps100;go_wp2_with fail;go_ret;exact⟨congrArg (fun z=>Zf (Zs z)) hF.out,YD _⟩
theorem KM(A:Sl (Sl ByteArray))(B:Sl (Sl Int))(w:World)(Ka:Sl ByteArray→Prop)(Kb:Sl Int→Prop)(hA:A.In w 1 YY Ka)(hB:B.In w 1 YY Kb)(hl:A.l.length≤1048576) :
  Kp Zr w 99 #[A.v,B.v,.func (.func 100) #[] #[]] (.bool (decide (A.l.length=B.l.length)&&Xl (fun (a:Sl ByteArray) (b:Sl Int)=>((a.l.length:Int)==(b.l.length:Int))) A.l B.l)):=by
 intro y0;obtain⟨p,cap,l⟩:=A;obtain⟨q,caq,m⟩:=B;simp only[Sl.v]at hl ⊢;obtain⟨n,hn⟩:=Zv l.length;obtain⟨n2,XG⟩:=Zv m.length;have kA:=hA.kids;have hA:=hA.row.plus y0;have hB:=hB.row.plus y0;obtain⟨W,hW⟩:=Zv (plus w y0);rw[hW]at hA hB ⊢;rw[hn]at hl;rw[hn,XG];clear hW;have Wb:=fun args w=>enters_of func100 (by kernel_rfl) rfl args w;by_cases he:n=n2
 case neg =>
  have e1:decide (n=n2)=false:=decide_eq_false he;have e2:((n:Int)==(n2:Int))=false:=by simp;omega
  have e3:((n:Int) !=(n2:Int))=true:=by simp[bne,e2]
  rw[e1,Bool.false_and];clear hA hB hn XG kA;go_enter func99,ntmps99;go_wp2;go_ret;exact⟨rfl,_,(ZK W).symm⟩
 subst he;rw[decide_eq_true (rfl:n=n),Ze];obtain⟨R,hR⟩:=Zv (Xl (fun (a:Sl ByteArray) (b:Sl Int)=>((a.l.length:Int)==(b.l.length:Int))) l m);have h0:Xl (fun (a:Sl ByteArray) (b:Sl Int)=>((a.l.length:Int)==(b.l.length:Int))) (l.drop 0) (m.drop 0)=R:=hR;rw[hR];have ZR:=Zg hA;have hB':=Zg hB;have ZJ:=Zg hn;have YJ:=Zg XG;have ZX:=Zg hl;have Yd:=Zg h0;have hkA:=Zg kA;clear hA hB hl hn XG hR h0 kA;go_enter func99,ntmps99;go_wp2;go_loopw [7,8,9,17] (fun _ _ _ iv wr=>∃k:Nat,k≤n∧iv=.int .i64 (k:Int)∧Hid (Xl (fun (a:Sl ByteArray) (b:Sl Int)=>((a.l.length:Int)==(b.l.length:Int))) (l.drop k) (m.drop k)=R)∧∃y,wr=plus W y) (fun _ _ _ iv _=>n-(intOf iv).toNat)
 case atStart=>exact⟨0,Zq _,rfl,Yd,⟨#[],W.drawn⟩,(ZK W).symm⟩
 case round =>
  obtain⟨k,hk,rfl,hs,y,rfl⟩:=hrel;by_cases Zz:k<n
  ·obtain⟨a,ha⟩:=Z6 l k (by rw[ZJ.out];exact Zz)
   obtain⟨b,hb⟩:=Z6 m k (by rw[YJ.out];exact Zz);obtain⟨pa,rfl,hc⟩:=ZR.out k a ha;obtain⟨pb,rfl,hd⟩:=hB'.out k b hb;have ZB:((fun (a:Sl ByteArray) (b:Sl Int)=>((a.l.length:Int)==(b.l.length:Int))) a b&&Xl (fun (a:Sl ByteArray) (b:Sl Int)=>((a.l.length:Int)==(b.l.length:Int))) (l.drop (k+1)) (m.drop (k+1)))=R:=by rw[←QE (fun (a:Sl ByteArray) (b:Sl Int)=>((a.l.length:Int)==(b.l.length:Int))) ha hb];exact hs.out
   have a6:=Zg (Yo k n Zz ZX.out);have k0:¬((k:Int)<0):=by omega
   have k1:(k:Int)<(n:Int):=by omega
   have hka:=hkA.out a (Zl ha);have d0:∀y,(Go.Proofs.YtheaknidbcbneaaGreat.plus W y).cell? _=some (.slice a.p a.l.length a.cap):=fun y=>(hc.plus y).c0 _ rfl;have e0:∀y,(Go.Proofs.YtheaknidbcbneaaGreat.plus W y).cell? _=some (.slice b.p b.l.length b.cap):=fun y=>(hd.plus y).c0 _ rfl;simp only[Nat.mul_one]at d0 e0;have q1':=Zg (Jr a.p b.p a.l.length a.cap b.l.length b.cap W).pure;clear hc hd ha hb hs hka;obtain⟨Z,hZ⟩:=Zv ((fun (a:Sl ByteArray) (b:Sl Int)=>((a.l.length:Int)==(b.l.length:Int))) a b);dsimp only at hZ ZB;rw[hZ]at q1' ZB;clear hZ;cases Z with
   | true =>
    have ZD:=Zg (show Xl (fun (a:Sl ByteArray) (b:Sl Int)=>((a.l.length:Int)==(b.l.length:Int))) (l.drop (k+1)) (m.drop (k+1))=R by rw[←ZB,Ze]);clear ZB;go_wp2_with (refine (q1'.out _).mono ?_;rintro e w' ⟨rfl,x,rfl⟩);go_roundw
    case rel=>exact⟨k+1,Zz,congrArg (Zt .i64) a6.out,ZD,x,rfl⟩
    case measure=>exact YF k n Zz a6.out
   | false =>
    have ZD:=Zg (show false=R by rw[←ZB,Bool.false_and]);clear ZB;go_wp2_with (refine (q1'.out _).mono ?_;rintro e w' ⟨rfl,x,rfl⟩);go_ret;exact⟨congrArg (fun z=>Zf (Zs z)) ZD.out,x,rfl⟩
  ·obtain rfl:k=n:=by omega
   have ZD:=Zg (show true=R by
    rw[←hs.out,Zh (by rw[ZJ.out];exact Zp _),QF])
   clear hs Zz hk;go_wp2;go_ret;exact⟨congrArg (fun z=>Zf (Zs z)) ZD.out,y,rfl⟩
end Go.Proofs.YtheaknidbcbneaaGreat

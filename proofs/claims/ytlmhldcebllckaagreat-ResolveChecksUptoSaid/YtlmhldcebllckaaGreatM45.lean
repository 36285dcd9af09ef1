/-
  WHAT IS PROVED HERE: a part of the proof (made narrower and merged by program; the parts: Ji0 Ji1).
-/
import Derived.Test.YtlmhldcebllckaaGreatRows
import Derived.WalkKit
import Derived.Lib.Hide
import Derived.WalkSpells
import Derived.WalkLawsBesides
import Derived.Laws.EntriesVeiled
import Derived.Shelf.Abstract
import Derived.Deep.CutRange
import Derived.Test.YtlmhldcebllckaaGreatM42
namespace Go.Proofs.YtlmhldcebllckaaGreat
open Go.RowKit
set_option maxRecDepth 100000 in
set_option maxHeartbeats 4000000 in
theorem rstmt_4 (a1:ByteArray) (a2:ByteArray) (a3:Int) (a4:Int) (a5:Int) (a6:Int) (a7:ByteArray) (a8:ByteArray) (a9:Int) (a10:Int) (a11p:Option Addr) (a11n:Nat) (a11c:Nat) (a12p:Option Addr) (a12n:Nat) (a12c:Nat) (a13p:Option Addr) (a13n:Nat) (a13c:Nat) (deep:Int)  (s0:Bool) (w:World)
  (h0:Kp Tryz.prog w 147 #[.agg #[.int .u8 a3,.int .i64 a4,.int .u64 a5,.int .u64 a6,.string a7,.string a8,.int .i64 a9,.int .i64 a10,.slice a11p a11n a11c],.agg #[.int .u8 0,.int .i64 0,.int .u64 0,.int .u64 0,.string ⟨#[]⟩,.string ⟨#[]⟩,.int .i64 0,.int .i64 0,.slice none 0 0]] (.bool s0)) :
  Kp Tryz.prog w 121 #[.agg #[.int .u8 4,.string a1,.string a2,.int .u8 a3,.int .i64 a4,.int .u64 a5,.int .u64 a6,.string a7,.string a8,.int .i64 a9,.int .i64 a10,.slice a11p a11n a11c,.slice a12p a12n a12c,.slice a13p a13n a13c],.int .i64 deep] (.bool ((!(decide ((0:Int) < (a12n:Int)) || decide ((0:Int) < (a13n:Int)))) && ((!((a3 != 0) || (decide ((0:Int) < (a11n:Int)) || !s0))) && ((a1.toList == []) && (a2.toList == []))))):=by
 intro y0
 have h0:=h0.up y0
 obtain ⟨V,hV⟩:∃ V,plus w y0 = V:=⟨_,rfl⟩
 rw [hV] at h0 ⊢
 clear hV
 obtain ⟨E,hE⟩:∃ E,((a3 != 0) || (decide ((0:Int) < (a11n:Int)) || !s0)) = E:=⟨_,rfl⟩
 obtain ⟨B,hB⟩:∃ B,(decide ((0:Int) < (a12n:Int)) || decide ((0:Int) < (a13n:Int))) = B:=⟨_,rfl⟩
 obtain ⟨R,hR⟩:∃ R,((!B) && ((!E) && ((a1.toList == []) && (a2.toList == [])))) = R:=⟨_,rfl⟩
 rw [hE,hB,hR]
 have hE':=Lib.hid hE
 have hB':=Lib.hid hB
 have hR':=Lib.hid hR
 clear hE hB hR
 have h0:=Lib.hid h0
 go_enter Tryz.func121,Tryz.ntmps121
 go_upto_region 1 with (fail)
 obtain ⟨W,yy,hW,⟨z,hz⟩,cb0⟩:=box1n V _ 75
 rw [hW]
 have c0_0:=cb0 0 _ rfl
 have c0_1:=cb0 1 _ rfl
 have c0_2:=cb0 2 _ rfl
 have c0_3:=cb0 3 _ rfl
 have c0_4:=cb0 4 _ rfl
 have c0_5:=cb0 5 _ rfl
 have c0_6:=cb0 6 _ rfl
 have c0_7:=cb0 7 _ rfl
 have c0_8:=cb0 8 _ rfl
 have c0_9:=cb0 9 _ rfl
 have c0_10:=cb0 10 _ rfl
 have c0_11:=cb0 11 _ rfl
 have c0_12:=cb0 12 _ rfl
 have c0_13:=cb0 13 _ rfl
 have q0c:=Lib.hid (kp_at hz h0.out)
 have hz':=Lib.hid hz
 clear hW hz cb0 h0
 go_cut [5] from 7 to 24 (fun v wx=>v = .bool E ∧ ∃ y,wx = plus W y)
 case first =>
  by_cases q1:(a3 != 0) = true
  case pos =>
   have hF:=Lib.hid (show true = E by rw [← hE'.out,q1];rfl)
   go_wp2_with fail
   go_meet
   exact ⟨congrArg Value.bool hF.out,yy,rfl⟩
  case neg =>
   have q1:(a3 != 0) = false:=by simpa using q1
   by_cases q2:(0:Int) < (a11n:Int)
   case pos =>
    have hF:=Lib.hid (show true = E by rw [← hE'.out,q1,decide_eq_true q2];rfl)
    go_wp2_with fail
    go_meet
    exact ⟨congrArg Value.bool hF.out,yy,rfl⟩
   case neg =>
    have hF:=Lib.hid (show (!s0) = E by rw [← hE'.out,q1,decide_eq_false q2];rfl)
    have q2z:a11n = 0:=by omega
    subst q2z
    go_wp2_with fail
    refine (q0c.out _).mono ?_
    rintro r w' ⟨rfl,x1,rfl⟩
    go_wp2_with fail
    go_meet
    exact ⟨congrArg Value.bool hF.out,x1,rfl⟩
 case rest =>
  obtain ⟨rfl,y1,rfl⟩:=hcut
  go_upto_region 2 with (fail)
  go_cut [6] from 25 to 34 (fun v wx=>v = .bool B ∧ wx = plus W y1)
  case first =>
   by_cases q1:(0:Int) < (a12n:Int)
   case pos =>
    have hF:=Lib.hid (show true = B by rw [← hB'.out,decide_eq_true q1];rfl)
    go_wp2_with fail
    go_meet
    exact ⟨congrArg Value.bool hF.out,rfl⟩
   case neg =>
    by_cases q2:(0:Int) < (a13n:Int)
    case pos =>
     have hF:=Lib.hid (show true = B by rw [← hB'.out,decide_eq_false q1,decide_eq_true q2];rfl)
     have q1z:a12n = 0:=by omega
     subst q1z
     go_wp2_with fail
     go_meet
     first | exact ⟨congrArg Value.bool hF.out,rfl⟩ | exact ⟨congrArg Value.bool (Eq.trans (by simp;omega) hF.out),rfl⟩
    case neg =>
     have hF:=Lib.hid (show false = B by rw [← hB'.out,decide_eq_false q1,decide_eq_false q2];rfl)
     have q1z:a12n = 0:=by omega
     subst q1z
     have q2z:a13n = 0:=by omega
     subst q2z
     go_wp2_with fail
     go_meet
     first | exact ⟨congrArg Value.bool hF.out,rfl⟩ | exact ⟨congrArg Value.bool (Eq.trans (by simp;omega) hF.out),rfl⟩
  case rest =>
   obtain ⟨rfl,rfl⟩:=hcut
   have hR:=hR'.out
   clear hR' hE' hB' q0c
   cases B
   case false =>
    cases E
    case false =>
     by_cases q1:(a1.toList == []) = true
     case neg =>
      have q1:(a1.toList == []) = false:=by simpa using q1
      have q1x:¬ a1.toList = []:=by simpa using q1
      have q1y:(a1.toList != []) = true:=by simpa using q1
      have hF:=Lib.hid (show (false) = R by first | exact hR | (rw [← hR];simp [q1]))
      clear hR
      go_wp2_with (fail)
      go_ret
      exact ⟨rb hF.out,pp hz'.out⟩
     case pos =>
      have q1x:a1.toList = []:=by simpa using q1
      have q1y:(a1.toList != []) = false:=by simpa using q1
      by_cases q2:(a2.toList == []) = true
      case neg =>
       have q2:(a2.toList == []) = false:=by simpa using q2
       have q2x:¬ a2.toList = []:=by simpa using q2
       have q2y:(a2.toList != []) = true:=by simpa using q2
       have hF:=Lib.hid (show (false) = R by first | exact hR | (rw [← hR];simp [q1,q2]))
       clear hR
       go_wp2_with (fail)
       go_ret
       exact ⟨rb hF.out,pp hz'.out⟩
      case pos =>
       have q2x:a2.toList = []:=by simpa using q2
       have q2y:(a2.toList != []) = false:=by simpa using q2
       have hF:=Lib.hid (show (true) = R by first | exact hR | (rw [← hR];simp [q1,q2]))
       clear hR
       go_wp2_with (fail)
       go_ret
       exact ⟨rb hF.out,pp hz'.out⟩
    case true =>
     have hF:=Lib.hid (show (false) = R by first | exact hR | (rw [← hR];simp))
     clear hR
     go_wp2_with (fail)
     go_ret
     exact ⟨rb hF.out,pp hz'.out⟩
   case true =>
    have hF:=Lib.hid (show (false) = R by first | exact hR | (rw [← hR];simp))
    clear hR
    go_wp2_with (fail)
    go_ret
    exact ⟨rb hF.out,pp hz'.out⟩
set_option maxRecDepth 100000 in
set_option maxHeartbeats 4000000 in
theorem rstmt_0 (a0:Int) (a1:ByteArray) (a2:ByteArray) (a3:Int) (a4:Int) (a5:Int) (a6:Int) (a7:ByteArray) (a8:ByteArray) (a9:Int) (a10:Int) (a11p:Option Addr) (a11n:Nat) (a11c:Nat) (a12p:Option Addr) (a12n:Nat) (a12c:Nat) (a13p:Option Addr) (a13n:Nat) (a13c:Nat) (deep:Int)  (s0:Bool) (w:World) (hk:¬ (1 ≤ a0 ∧ a0 ≤ 7))
  (h0:Kp Tryz.prog w 147 #[.agg #[.int .u8 a3,.int .i64 a4,.int .u64 a5,.int .u64 a6,.string a7,.string a8,.int .i64 a9,.int .i64 a10,.slice a11p a11n a11c],.agg #[.int .u8 0,.int .i64 0,.int .u64 0,.int .u64 0,.string ⟨#[]⟩,.string ⟨#[]⟩,.int .i64 0,.int .i64 0,.slice none 0 0]] (.bool s0)) :
  Kp Tryz.prog w 121 #[.agg #[.int .u8 a0,.string a1,.string a2,.int .u8 a3,.int .i64 a4,.int .u64 a5,.int .u64 a6,.string a7,.string a8,.int .i64 a9,.int .i64 a10,.slice a11p a11n a11c,.slice a12p a12n a12c,.slice a13p a13n a13c],.int .i64 deep] (.bool (false)):=by
 intro y0
 have h0:=h0.up y0
 obtain ⟨V,hV⟩:∃ V,plus w y0 = V:=⟨_,rfl⟩
 rw [hV] at h0 ⊢
 clear hV
 have n1:(a0 == 1) = false:=by simp;omega
 have n2:(a0 == 2) = false:=by simp;omega
 have n3:(a0 == 3) = false:=by simp;omega
 have n4:(a0 == 4) = false:=by simp;omega
 have n5:(a0 == 5) = false:=by simp;omega
 have n6:(a0 == 6) = false:=by simp;omega
 have n7:(a0 == 7) = false:=by simp;omega
 clear hk
 obtain ⟨E,hE⟩:∃ E,((a3 != 0) || (decide ((0:Int) < (a11n:Int)) || !s0)) = E:=⟨_,rfl⟩
 obtain ⟨B,hB⟩:∃ B,(decide ((0:Int) < (a12n:Int)) || decide ((0:Int) < (a13n:Int))) = B:=⟨_,rfl⟩
 obtain ⟨R,hR⟩:∃ R,(false) = R:=⟨_,rfl⟩
 rw [hR]
 have hE':=Lib.hid hE
 have hB':=Lib.hid hB
 have hR':=Lib.hid hR
 clear hE hB hR
 have h0:=Lib.hid h0
 go_enter Tryz.func121,Tryz.ntmps121
 go_upto_region 1 with (fail)
 obtain ⟨W,yy,hW,⟨z,hz⟩,cb0⟩:=box1n V _ 75
 rw [hW]
 have c0_0:=cb0 0 _ rfl
 have c0_1:=cb0 1 _ rfl
 have c0_2:=cb0 2 _ rfl
 have c0_3:=cb0 3 _ rfl
 have c0_4:=cb0 4 _ rfl
 have c0_5:=cb0 5 _ rfl
 have c0_6:=cb0 6 _ rfl
 have c0_7:=cb0 7 _ rfl
 have c0_8:=cb0 8 _ rfl
 have c0_9:=cb0 9 _ rfl
 have c0_10:=cb0 10 _ rfl
 have c0_11:=cb0 11 _ rfl
 have c0_12:=cb0 12 _ rfl
 have c0_13:=cb0 13 _ rfl
 have q0c:=Lib.hid (kp_at hz h0.out)
 have hz':=Lib.hid hz
 clear hW hz cb0 h0
 go_cut [5] from 7 to 24 (fun v wx=>v = .bool E ∧ ∃ y,wx = plus W y)
 case first =>
  by_cases q1:(a3 != 0) = true
  case pos =>
   have hF:=Lib.hid (show true = E by rw [← hE'.out,q1];rfl)
   go_wp2_with fail
   go_meet
   exact ⟨congrArg Value.bool hF.out,yy,rfl⟩
  case neg =>
   have q1:(a3 != 0) = false:=by simpa using q1
   by_cases q2:(0:Int) < (a11n:Int)
   case pos =>
    have hF:=Lib.hid (show true = E by rw [← hE'.out,q1,decide_eq_true q2];rfl)
    go_wp2_with fail
    go_meet
    exact ⟨congrArg Value.bool hF.out,yy,rfl⟩
   case neg =>
    have hF:=Lib.hid (show (!s0) = E by rw [← hE'.out,q1,decide_eq_false q2];rfl)
    have q2z:a11n = 0:=by omega
    subst q2z
    go_wp2_with fail
    refine (q0c.out _).mono ?_
    rintro r w' ⟨rfl,x1,rfl⟩
    go_wp2_with fail
    go_meet
    exact ⟨congrArg Value.bool hF.out,x1,rfl⟩
 case rest =>
  obtain ⟨rfl,y1,rfl⟩:=hcut
  go_upto_region 2 with (fail)
  go_cut [6] from 25 to 34 (fun v wx=>v = .bool B ∧ wx = plus W y1)
  case first =>
   by_cases q1:(0:Int) < (a12n:Int)
   case pos =>
    have hF:=Lib.hid (show true = B by rw [← hB'.out,decide_eq_true q1];rfl)
    go_wp2_with fail
    go_meet
    exact ⟨congrArg Value.bool hF.out,rfl⟩
   case neg =>
    by_cases q2:(0:Int) < (a13n:Int)
    case pos =>
     have hF:=Lib.hid (show true = B by rw [← hB'.out,decide_eq_false q1,decide_eq_true q2];rfl)
     have q1z:a12n = 0:=by omega
     subst q1z
     go_wp2_with fail
     go_meet
     first | exact ⟨congrArg Value.bool hF.out,rfl⟩ | exact ⟨congrArg Value.bool (Eq.trans (by simp;omega) hF.out),rfl⟩
    case neg =>
     have hF:=Lib.hid (show false = B by rw [← hB'.out,decide_eq_false q1,decide_eq_false q2];rfl)
     have q1z:a12n = 0:=by omega
     subst q1z
     have q2z:a13n = 0:=by omega
     subst q2z
     go_wp2_with fail
     go_meet
     first | exact ⟨congrArg Value.bool hF.out,rfl⟩ | exact ⟨congrArg Value.bool (Eq.trans (by simp;omega) hF.out),rfl⟩
  case rest =>
   obtain ⟨rfl,rfl⟩:=hcut
   have hR:=hR'.out
   clear hR' hE' hB' q0c
   have hF:=Lib.hid (show (false) = R by first | exact hR | (rw [← hR];simp))
   clear hR
   go_wp2_with (fail)
   go_ret
   exact ⟨rb hF.out,pp hz'.out⟩
set_option maxRecDepth 100000 in
set_option maxHeartbeats 4000000 in
theorem rstmt_1 (a1:ByteArray) (a2:ByteArray) (a3:Int) (a4:Int) (a5:Int) (a6:Int) (a7:ByteArray) (a8:ByteArray) (a9:Int) (a10:Int) (a11p:Option Addr) (a11n:Nat) (a11c:Nat) (a12p:Option Addr) (a12n:Nat) (a12c:Nat) (a13p:Option Addr) (a13n:Nat) (a13c:Nat) (deep:Int)  (s0:Bool) (s1:Bool) (s2:Bool) (s3:Bool) (w:World)
  (h0:Kp Tryz.prog w 147 #[.agg #[.int .u8 a3,.int .i64 a4,.int .u64 a5,.int .u64 a6,.string a7,.string a8,.int .i64 a9,.int .i64 a10,.slice a11p a11n a11c],.agg #[.int .u8 0,.int .i64 0,.int .u64 0,.int .u64 0,.string ⟨#[]⟩,.string ⟨#[]⟩,.int .i64 0,.int .i64 0,.slice none 0 0]] (.bool s0))
  (h1:Kp Tryz.prog w 75 #[.string a2] (.bool s1))
  (h2:Kp Tryz.prog w 75 #[.string a1] (.bool s2))
  (h3:Kp Tryz.prog w 122 #[.agg #[.int .u8 a3,.int .i64 a4,.int .u64 a5,.int .u64 a6,.string a7,.string a8,.int .i64 a9,.int .i64 a10,.slice a11p a11n a11c]] (.bool s3)) :
  Kp Tryz.prog w 121 #[.agg #[.int .u8 1,.string a1,.string a2,.int .u8 a3,.int .i64 a4,.int .u64 a5,.int .u64 a6,.string a7,.string a8,.int .i64 a9,.int .i64 a10,.slice a11p a11n a11c,.slice a12p a12n a12c,.slice a13p a13n a13c],.int .i64 deep] (.bool ((!(decide ((0:Int) < (a12n:Int)) || decide ((0:Int) < (a13n:Int)))) && (s1 && (((a1.toList == []) || s2) && s3)))):=by
 intro y0
 have h0:=h0.up y0
 have h1:=h1.up y0
 have h2:=h2.up y0
 have h3:=h3.up y0
 obtain ⟨V,hV⟩:∃ V,plus w y0 = V:=⟨_,rfl⟩
 rw [hV] at h0 h1 h2 h3 ⊢
 clear hV
 obtain ⟨E,hE⟩:∃ E,((a3 != 0) || (decide ((0:Int) < (a11n:Int)) || !s0)) = E:=⟨_,rfl⟩
 obtain ⟨B,hB⟩:∃ B,(decide ((0:Int) < (a12n:Int)) || decide ((0:Int) < (a13n:Int))) = B:=⟨_,rfl⟩
 obtain ⟨R,hR⟩:∃ R,((!B) && (s1 && (((a1.toList == []) || s2) && s3))) = R:=⟨_,rfl⟩
 rw [hB,hR]
 have hE':=Lib.hid hE
 have hB':=Lib.hid hB
 have hR':=Lib.hid hR
 clear hE hB hR
 have h0:=Lib.hid h0
 have h1:=Lib.hid h1
 have h2:=Lib.hid h2
 have h3:=Lib.hid h3
 go_enter Tryz.func121,Tryz.ntmps121
 go_upto_region 1 with (fail)
 obtain ⟨W,yy,hW,⟨z,hz⟩,cb0⟩:=box1n V _ 75
 rw [hW]
 have c0_0:=cb0 0 _ rfl
 have c0_1:=cb0 1 _ rfl
 have c0_2:=cb0 2 _ rfl
 have c0_3:=cb0 3 _ rfl
 have c0_4:=cb0 4 _ rfl
 have c0_5:=cb0 5 _ rfl
 have c0_6:=cb0 6 _ rfl
 have c0_7:=cb0 7 _ rfl
 have c0_8:=cb0 8 _ rfl
 have c0_9:=cb0 9 _ rfl
 have c0_10:=cb0 10 _ rfl
 have c0_11:=cb0 11 _ rfl
 have c0_12:=cb0 12 _ rfl
 have c0_13:=cb0 13 _ rfl
 have q0c:=Lib.hid (kp_at hz h0.out)
 have q1c:=Lib.hid (kp_at hz h1.out)
 have q2c:=Lib.hid (kp_at hz h2.out)
 have q3c:=Lib.hid (kp_at hz h3.out)
 have hz':=Lib.hid hz
 clear hW hz cb0 h0 h1 h2 h3
 go_cut [5] from 7 to 24 (fun v wx=>v = .bool E ∧ ∃ y,wx = plus W y)
 case first =>
  by_cases q1:(a3 != 0) = true
  case pos =>
   have hF:=Lib.hid (show true = E by rw [← hE'.out,q1];rfl)
   go_wp2_with fail
   go_meet
   exact ⟨congrArg Value.bool hF.out,yy,rfl⟩
  case neg =>
   have q1:(a3 != 0) = false:=by simpa using q1
   by_cases q2:(0:Int) < (a11n:Int)
   case pos =>
    have hF:=Lib.hid (show true = E by rw [← hE'.out,q1,decide_eq_true q2];rfl)
    go_wp2_with fail
    go_meet
    exact ⟨congrArg Value.bool hF.out,yy,rfl⟩
   case neg =>
    have hF:=Lib.hid (show (!s0) = E by rw [← hE'.out,q1,decide_eq_false q2];rfl)
    have q2z:a11n = 0:=by omega
    subst q2z
    go_wp2_with fail
    refine (q0c.out _).mono ?_
    rintro r w' ⟨rfl,x1,rfl⟩
    go_wp2_with fail
    go_meet
    exact ⟨congrArg Value.bool hF.out,x1,rfl⟩
 case rest =>
  obtain ⟨rfl,y1,rfl⟩:=hcut
  go_upto_region 2 with (fail)
  go_cut [6] from 25 to 34 (fun v wx=>v = .bool B ∧ wx = plus W y1)
  case first =>
   by_cases q1:(0:Int) < (a12n:Int)
   case pos =>
    have hF:=Lib.hid (show true = B by rw [← hB'.out,decide_eq_true q1];rfl)
    go_wp2_with fail
    go_meet
    exact ⟨congrArg Value.bool hF.out,rfl⟩
   case neg =>
    by_cases q2:(0:Int) < (a13n:Int)
    case pos =>
     have hF:=Lib.hid (show true = B by rw [← hB'.out,decide_eq_false q1,decide_eq_true q2];rfl)
     have q1z:a12n = 0:=by omega
     subst q1z
     go_wp2_with fail
     go_meet
     first | exact ⟨congrArg Value.bool hF.out,rfl⟩ | exact ⟨congrArg Value.bool (Eq.trans (by simp;omega) hF.out),rfl⟩
    case neg =>
     have hF:=Lib.hid (show false = B by rw [← hB'.out,decide_eq_false q1,decide_eq_false q2];rfl)
     have q1z:a12n = 0:=by omega
     subst q1z
     have q2z:a13n = 0:=by omega
     subst q2z
     go_wp2_with fail
     go_meet
     first | exact ⟨congrArg Value.bool hF.out,rfl⟩ | exact ⟨congrArg Value.bool (Eq.trans (by simp;omega) hF.out),rfl⟩
  case rest =>
   obtain ⟨rfl,rfl⟩:=hcut
   have hR:=hR'.out
   clear hR' hE' hB' q0c
   cases B
   case false =>
    cases s1
    case false =>
     have hF:=Lib.hid (show (false) = R by first | exact hR | (rw [← hR];simp))
     clear hR
     clear q2c q3c
     go_wp2_with (first | (go_at_call 75;with_reducible refine (q1c.out _).mono ?_;rintro r w' ⟨rfl,x,rfl⟩))
     go_ret
     exact ⟨rb hF.out,pp hz'.out⟩
    case true =>
     by_cases q1:(a1.toList == []) = true
     case neg =>
      have q1:(a1.toList == []) = false:=by simpa using q1
      have q1x:¬ a1.toList = []:=by simpa using q1
      have q1y:(a1.toList != []) = true:=by simpa using q1
      cases s2
      case false =>
       have hF:=Lib.hid (show (false) = R by first | exact hR | (rw [← hR];simp [q1]))
       clear hR
       clear q3c
       go_wp2_with (first | (go_at_call 75;with_reducible refine (q1c.out _).mono ?_;rintro r w' ⟨rfl,x,rfl⟩) | (go_at_call 75;with_reducible refine (q2c.out _).mono ?_;rintro r w' ⟨rfl,x,rfl⟩))
       go_ret
       exact ⟨rb hF.out,pp hz'.out⟩
      case true =>
       cases s3
       case false =>
        have hF:=Lib.hid (show (false) = R by first | exact hR | (rw [← hR];simp [q1]))
        clear hR
        go_wp2_with (first | (go_at_call 75;with_reducible refine (q1c.out _).mono ?_;rintro r w' ⟨rfl,x,rfl⟩) | (go_at_call 75;with_reducible refine (q2c.out _).mono ?_;rintro r w' ⟨rfl,x,rfl⟩) | (go_at_call 122;with_reducible refine (q3c.out _).mono ?_;rintro r w' ⟨rfl,x,rfl⟩))
        go_ret
        exact ⟨rb hF.out,pp hz'.out⟩
       case true =>
        have hF:=Lib.hid (show (true) = R by first | exact hR | (rw [← hR];simp [q1]))
        clear hR
        go_wp2_with (first | (go_at_call 75;with_reducible refine (q1c.out _).mono ?_;rintro r w' ⟨rfl,x,rfl⟩) | (go_at_call 75;with_reducible refine (q2c.out _).mono ?_;rintro r w' ⟨rfl,x,rfl⟩) | (go_at_call 122;with_reducible refine (q3c.out _).mono ?_;rintro r w' ⟨rfl,x,rfl⟩))
        go_ret
        exact ⟨rb hF.out,pp hz'.out⟩
     case pos =>
      have q1x:a1.toList = []:=by simpa using q1
      have q1y:(a1.toList != []) = false:=by simpa using q1
      cases s3
      case false =>
       have hF:=Lib.hid (show (false) = R by first | exact hR | (rw [← hR];simp [q1]))
       clear hR
       clear q2c
       go_wp2_with (first | (go_at_call 75;with_reducible refine (q1c.out _).mono ?_;rintro r w' ⟨rfl,x,rfl⟩) | (go_at_call 122;with_reducible refine (q3c.out _).mono ?_;rintro r w' ⟨rfl,x,rfl⟩))
       go_ret
       exact ⟨rb hF.out,pp hz'.out⟩
      case true =>
       have hF:=Lib.hid (show (true) = R by first | exact hR | (rw [← hR];simp [q1]))
       clear hR
       clear q2c
       go_wp2_with (first | (go_at_call 75;with_reducible refine (q1c.out _).mono ?_;rintro r w' ⟨rfl,x,rfl⟩) | (go_at_call 122;with_reducible refine (q3c.out _).mono ?_;rintro r w' ⟨rfl,x,rfl⟩))
       go_ret
       exact ⟨rb hF.out,pp hz'.out⟩
   case true =>
    have hF:=Lib.hid (show (false) = R by first | exact hR | (rw [← hR];simp))
    clear hR
    clear q1c q2c q3c
    go_wp2_with (fail)
    go_ret
    exact ⟨rb hF.out,pp hz'.out⟩
end Go.Proofs.YtlmhldcebllckaaGreat

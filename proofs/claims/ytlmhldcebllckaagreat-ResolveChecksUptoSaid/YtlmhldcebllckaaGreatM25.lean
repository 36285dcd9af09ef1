/-
  WHAT IS PROVED HERE: a part of the proof (made narrower and merged by program; the parts: Wj1).
-/
import Derived.Test.YtlmhldcebllckaaGreatRows
import Derived.WalkKit
import Derived.Lib.Hide
import Derived.WalkSpells
import Derived.WalkLawsBesides
import Derived.Test.YtlmhldcebllckaaGreatM14
namespace Go.Proofs.YtlmhldcebllckaaGreat
open Go.RowKit
set_option maxRecDepth 100000 in
set_option maxHeartbeats 8000000 in
theorem o_1 (p0:Option Addr) (n0 c0:Nat) (p1:Option Addr) (n1 c1:Nat) (p2:Option Addr) (n2 c2:Nat) (p3:Option Addr) (n3 c3:Nat) (p4:Option Addr) (n4 c4:Nat) (p5:Option Addr) (n5 c5:Nat) (p6:Option Addr) (n6 c6:Nat) (ka:Int) (kb:Int) (skd:Int) (shd snm:ByteArray) (sop slw slh sll:Int) (sehd senm:ByteArray) (shi slo:Int) (sep:Option Addr) (sen sec:Nat) (stp:Option Addr) (stn stc:Nat) (sup:Option Addr) (sun suc:Nat) (v:Int) (w:World)
  (h1:Kp Tryz.prog w 87 #[.agg #[.slice p0 n0 c0,.slice p1 n1 c1,.slice p2 n2 c2,.slice p3 n3 c3,.slice p4 n4 c4,.slice p5 n5 c5,.slice p6 n6 c6],.agg #[.int .u8 1,.int .i64 ka,.int .i64 kb,.int .u8 skd,.string shd,.string snm,.int .u8 sop,.int .i64 slw,.int .u64 slh,.int .u64 sll,.string sehd,.string senm,.int .i64 shi,.int .i64 slo,.slice sep sen sec,.slice stp stn stc,.slice sup sun suc]] (.int .i64 v)) :
  Kp Tryz.prog w 24 #[.agg #[.slice p0 n0 c0,.slice p1 n1 c1,.slice p2 n2 c2,.slice p3 n3 c3,.slice p4 n4 c4,.slice p5 n5 c5,.slice p6 n6 c6],.agg #[.int .u8 1,.int .i64 ka,.int .i64 kb,.int .u8 skd,.string shd,.string snm,.int .u8 sop,.int .i64 slw,.int .u64 slh,.int .u64 sll,.string sehd,.string senm,.int .i64 shi,.int .i64 slo,.slice sep sen sec,.slice stp stn stc,.slice sup sun suc]] (.int .i64 v):=by
 intro y0
 have h1:=h1.up y0
 obtain ⟨V,hV⟩:∃ V,plus w y0 = V:=⟨_,rfl⟩
 rw [hV] at h1 ⊢
 clear hV
 have h1':=Lib.hid h1
 clear h1
 go_enter Tryz.func24,Tryz.ntmps24
 go_upto_region 1 with (fail)
 obtain ⟨W,yy,hW,⟨z,hz2⟩,cp,ci⟩:=box2n V _ _ 30 77
 rw [hW]
 have cp0:=cp 0 _ rfl
 have cp1:=cp 1 _ rfl
 have cp2:=cp 2 _ rfl
 have cp3:=cp 3 _ rfl
 have cp4:=cp 4 _ rfl
 have cp5:=cp 5 _ rfl
 have cp6:=cp 6 _ rfl
 have ci0:=ci 0 _ rfl
 have ci1:=ci 1 _ rfl
 have ci2:=ci 2 _ rfl
 have ci3:=ci 3 _ rfl
 have ci4:=ci 4 _ rfl
 have ci5:=ci 5 _ rfl
 have ci6:=ci 6 _ rfl
 have ci7:=ci 7 _ rfl
 have ci8:=ci 8 _ rfl
 have ci9:=ci 9 _ rfl
 have ci10:=ci 10 _ rfl
 have ci11:=ci 11 _ rfl
 have ci12:=ci 12 _ rfl
 have ci13:=ci 13 _ rfl
 have ci14:=ci 14 _ rfl
 have ci15:=ci 15 _ rfl
 have ci16:=ci 16 _ rfl
 have qh1:=Lib.hid (kp_at hz2 h1'.out)
 have hz3:=Lib.hid hz2
 clear hW hz2 cp ci h1'
 go_wp2_with (first | (go_at_call 87;with_reducible refine (qh1.out _).mono ?_;rintro r w' ⟨rfl,x,rfl⟩))
 go_ret
 exact ⟨rfl,by rw [hz3.out,plus_plus];exact ⟨_,rfl⟩⟩
set_option maxRecDepth 100000 in
set_option maxHeartbeats 8000000 in
theorem o_2 (p0:Option Addr) (n0 c0:Nat) (p1:Option Addr) (n1 c1:Nat) (p2:Option Addr) (n2 c2:Nat) (p3:Option Addr) (n3 c3:Nat) (p4:Option Addr) (n4 c4:Nat) (p5:Option Addr) (n5 c5:Nat) (p6:Option Addr) (n6 c6:Nat) (ka:Int) (kb:Int) (skd:Int) (shd snm:ByteArray) (sop slw slh sll:Int) (sehd senm:ByteArray) (shi slo:Int) (sep:Option Addr) (sen sec:Nat) (stp:Option Addr) (stn stc:Nat) (sup:Option Addr) (sun suc:Nat) (v:Int) (w:World)
  (h1:Kp Tryz.prog w 87 #[.agg #[.slice p0 n0 c0,.slice p1 n1 c1,.slice p2 n2 c2,.slice p3 n3 c3,.slice p4 n4 c4,.slice p5 n5 c5,.slice p6 n6 c6],.agg #[.int .u8 2,.int .i64 ka,.int .i64 kb,.int .u8 skd,.string shd,.string snm,.int .u8 sop,.int .i64 slw,.int .u64 slh,.int .u64 sll,.string sehd,.string senm,.int .i64 shi,.int .i64 slo,.slice sep sen sec,.slice stp stn stc,.slice sup sun suc]] (.int .i64 v)) :
  Kp Tryz.prog w 24 #[.agg #[.slice p0 n0 c0,.slice p1 n1 c1,.slice p2 n2 c2,.slice p3 n3 c3,.slice p4 n4 c4,.slice p5 n5 c5,.slice p6 n6 c6],.agg #[.int .u8 2,.int .i64 ka,.int .i64 kb,.int .u8 skd,.string shd,.string snm,.int .u8 sop,.int .i64 slw,.int .u64 slh,.int .u64 sll,.string sehd,.string senm,.int .i64 shi,.int .i64 slo,.slice sep sen sec,.slice stp stn stc,.slice sup sun suc]] (.int .i64 v):=by
 intro y0
 have h1:=h1.up y0
 obtain ⟨V,hV⟩:∃ V,plus w y0 = V:=⟨_,rfl⟩
 rw [hV] at h1 ⊢
 clear hV
 have h1':=Lib.hid h1
 clear h1
 go_enter Tryz.func24,Tryz.ntmps24
 go_upto_region 1 with (fail)
 obtain ⟨W,yy,hW,⟨z,hz2⟩,cp,ci⟩:=box2n V _ _ 30 77
 rw [hW]
 have cp0:=cp 0 _ rfl
 have cp1:=cp 1 _ rfl
 have cp2:=cp 2 _ rfl
 have cp3:=cp 3 _ rfl
 have cp4:=cp 4 _ rfl
 have cp5:=cp 5 _ rfl
 have cp6:=cp 6 _ rfl
 have ci0:=ci 0 _ rfl
 have ci1:=ci 1 _ rfl
 have ci2:=ci 2 _ rfl
 have ci3:=ci 3 _ rfl
 have ci4:=ci 4 _ rfl
 have ci5:=ci 5 _ rfl
 have ci6:=ci 6 _ rfl
 have ci7:=ci 7 _ rfl
 have ci8:=ci 8 _ rfl
 have ci9:=ci 9 _ rfl
 have ci10:=ci 10 _ rfl
 have ci11:=ci 11 _ rfl
 have ci12:=ci 12 _ rfl
 have ci13:=ci 13 _ rfl
 have ci14:=ci 14 _ rfl
 have ci15:=ci 15 _ rfl
 have ci16:=ci 16 _ rfl
 have qh1:=Lib.hid (kp_at hz2 h1'.out)
 have hz3:=Lib.hid hz2
 clear hW hz2 cp ci h1'
 go_wp2_with (first | (go_at_call 87;with_reducible refine (qh1.out _).mono ?_;rintro r w' ⟨rfl,x,rfl⟩))
 go_ret
 exact ⟨rfl,by rw [hz3.out,plus_plus];exact ⟨_,rfl⟩⟩
set_option maxRecDepth 100000 in
set_option maxHeartbeats 8000000 in
theorem o_3 (p0:Option Addr) (n0 c0:Nat) (p1:Option Addr) (n1 c1:Nat) (p2:Option Addr) (n2 c2:Nat) (p3:Option Addr) (n3 c3:Nat) (p4:Option Addr) (n4 c4:Nat) (p5:Option Addr) (n5 c5:Nat) (p6:Option Addr) (n6 c6:Nat) (ka:Int) (kb:Int) (skd:Int) (shd snm:ByteArray) (sop slw slh sll:Int) (sehd senm:ByteArray) (shi slo:Int) (sep:Option Addr) (sen sec:Nat) (stp:Option Addr) (stn stc:Nat) (sup:Option Addr) (sun suc:Nat) (v:Int) (w:World)
  (h1:Kp Tryz.prog w 87 #[.agg #[.slice p0 n0 c0,.slice p1 n1 c1,.slice p2 n2 c2,.slice p3 n3 c3,.slice p4 n4 c4,.slice p5 n5 c5,.slice p6 n6 c6],.agg #[.int .u8 3,.int .i64 ka,.int .i64 kb,.int .u8 skd,.string shd,.string snm,.int .u8 sop,.int .i64 slw,.int .u64 slh,.int .u64 sll,.string sehd,.string senm,.int .i64 shi,.int .i64 slo,.slice sep sen sec,.slice stp stn stc,.slice sup sun suc]] (.int .i64 v)) :
  Kp Tryz.prog w 24 #[.agg #[.slice p0 n0 c0,.slice p1 n1 c1,.slice p2 n2 c2,.slice p3 n3 c3,.slice p4 n4 c4,.slice p5 n5 c5,.slice p6 n6 c6],.agg #[.int .u8 3,.int .i64 ka,.int .i64 kb,.int .u8 skd,.string shd,.string snm,.int .u8 sop,.int .i64 slw,.int .u64 slh,.int .u64 sll,.string sehd,.string senm,.int .i64 shi,.int .i64 slo,.slice sep sen sec,.slice stp stn stc,.slice sup sun suc]] (.int .i64 v):=by
 intro y0
 have h1:=h1.up y0
 obtain ⟨V,hV⟩:∃ V,plus w y0 = V:=⟨_,rfl⟩
 rw [hV] at h1 ⊢
 clear hV
 have h1':=Lib.hid h1
 clear h1
 go_enter Tryz.func24,Tryz.ntmps24
 go_upto_region 1 with (fail)
 obtain ⟨W,yy,hW,⟨z,hz2⟩,cp,ci⟩:=box2n V _ _ 30 77
 rw [hW]
 have cp0:=cp 0 _ rfl
 have cp1:=cp 1 _ rfl
 have cp2:=cp 2 _ rfl
 have cp3:=cp 3 _ rfl
 have cp4:=cp 4 _ rfl
 have cp5:=cp 5 _ rfl
 have cp6:=cp 6 _ rfl
 have ci0:=ci 0 _ rfl
 have ci1:=ci 1 _ rfl
 have ci2:=ci 2 _ rfl
 have ci3:=ci 3 _ rfl
 have ci4:=ci 4 _ rfl
 have ci5:=ci 5 _ rfl
 have ci6:=ci 6 _ rfl
 have ci7:=ci 7 _ rfl
 have ci8:=ci 8 _ rfl
 have ci9:=ci 9 _ rfl
 have ci10:=ci 10 _ rfl
 have ci11:=ci 11 _ rfl
 have ci12:=ci 12 _ rfl
 have ci13:=ci 13 _ rfl
 have ci14:=ci 14 _ rfl
 have ci15:=ci 15 _ rfl
 have ci16:=ci 16 _ rfl
 have qh1:=Lib.hid (kp_at hz2 h1'.out)
 have hz3:=Lib.hid hz2
 clear hW hz2 cp ci h1'
 go_wp2_with (first | (go_at_call 87;with_reducible refine (qh1.out _).mono ?_;rintro r w' ⟨rfl,x,rfl⟩))
 go_ret
 exact ⟨rfl,by rw [hz3.out,plus_plus];exact ⟨_,rfl⟩⟩
set_option maxRecDepth 100000 in
set_option maxHeartbeats 8000000 in
theorem o_4 (p0:Option Addr) (n0 c0:Nat) (p1:Option Addr) (n1 c1:Nat) (p2:Option Addr) (n2 c2:Nat) (p3:Option Addr) (n3 c3:Nat) (p4:Option Addr) (n4 c4:Nat) (p5:Option Addr) (n5 c5:Nat) (p6:Option Addr) (n6 c6:Nat) (ka:Int) (kb:Int) (skd:Int) (shd snm:ByteArray) (sop slw slh sll:Int) (sehd senm:ByteArray) (shi slo:Int) (sep:Option Addr) (sen sec:Nat) (stp:Option Addr) (stn stc:Nat) (sup:Option Addr) (sun suc:Nat) (v:Int) (w:World)
  (h1:Kp Tryz.prog w 87 #[.agg #[.slice p0 n0 c0,.slice p1 n1 c1,.slice p2 n2 c2,.slice p3 n3 c3,.slice p4 n4 c4,.slice p5 n5 c5,.slice p6 n6 c6],.agg #[.int .u8 4,.int .i64 ka,.int .i64 kb,.int .u8 skd,.string shd,.string snm,.int .u8 sop,.int .i64 slw,.int .u64 slh,.int .u64 sll,.string sehd,.string senm,.int .i64 shi,.int .i64 slo,.slice sep sen sec,.slice stp stn stc,.slice sup sun suc]] (.int .i64 v)) :
  Kp Tryz.prog w 24 #[.agg #[.slice p0 n0 c0,.slice p1 n1 c1,.slice p2 n2 c2,.slice p3 n3 c3,.slice p4 n4 c4,.slice p5 n5 c5,.slice p6 n6 c6],.agg #[.int .u8 4,.int .i64 ka,.int .i64 kb,.int .u8 skd,.string shd,.string snm,.int .u8 sop,.int .i64 slw,.int .u64 slh,.int .u64 sll,.string sehd,.string senm,.int .i64 shi,.int .i64 slo,.slice sep sen sec,.slice stp stn stc,.slice sup sun suc]] (.int .i64 v):=by
 intro y0
 have h1:=h1.up y0
 obtain ⟨V,hV⟩:∃ V,plus w y0 = V:=⟨_,rfl⟩
 rw [hV] at h1 ⊢
 clear hV
 have h1':=Lib.hid h1
 clear h1
 go_enter Tryz.func24,Tryz.ntmps24
 go_upto_region 1 with (fail)
 obtain ⟨W,yy,hW,⟨z,hz2⟩,cp,ci⟩:=box2n V _ _ 30 77
 rw [hW]
 have cp0:=cp 0 _ rfl
 have cp1:=cp 1 _ rfl
 have cp2:=cp 2 _ rfl
 have cp3:=cp 3 _ rfl
 have cp4:=cp 4 _ rfl
 have cp5:=cp 5 _ rfl
 have cp6:=cp 6 _ rfl
 have ci0:=ci 0 _ rfl
 have ci1:=ci 1 _ rfl
 have ci2:=ci 2 _ rfl
 have ci3:=ci 3 _ rfl
 have ci4:=ci 4 _ rfl
 have ci5:=ci 5 _ rfl
 have ci6:=ci 6 _ rfl
 have ci7:=ci 7 _ rfl
 have ci8:=ci 8 _ rfl
 have ci9:=ci 9 _ rfl
 have ci10:=ci 10 _ rfl
 have ci11:=ci 11 _ rfl
 have ci12:=ci 12 _ rfl
 have ci13:=ci 13 _ rfl
 have ci14:=ci 14 _ rfl
 have ci15:=ci 15 _ rfl
 have ci16:=ci 16 _ rfl
 have qh1:=Lib.hid (kp_at hz2 h1'.out)
 have hz3:=Lib.hid hz2
 clear hW hz2 cp ci h1'
 go_wp2_with (first | (go_at_call 87;with_reducible refine (qh1.out _).mono ?_;rintro r w' ⟨rfl,x,rfl⟩))
 go_ret
 exact ⟨rfl,by rw [hz3.out,plus_plus];exact ⟨_,rfl⟩⟩
end Go.Proofs.YtlmhldcebllckaaGreat

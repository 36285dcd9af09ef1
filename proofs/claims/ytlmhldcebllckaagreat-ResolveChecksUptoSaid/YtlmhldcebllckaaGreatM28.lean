/-
  WHAT IS PROVED HERE: a part of the proof (made narrower and merged by program; the parts: Wj4).
-/
import Derived.Test.YtlmhldcebllckaaGreatRows
import Derived.WalkKit
import Derived.Lib.Hide
import Derived.WalkSpells
import Derived.WalkLawsBesides
import Derived.Test.YtlmhldcebllckaaGreatM14
namespace Go.Proofs.YtlmhldcebllckaaGreat
open Go.RowKit
set_option maxRecDepth 100000 in
set_option maxHeartbeats 8000000 in
theorem o_14 (p0:Option Addr) (n0 c0:Nat) (p1:Option Addr) (n1 c1:Nat) (p2:Option Addr) (n2 c2:Nat) (p3:Option Addr) (n3 c3:Nat) (p4:Option Addr) (n4 c4:Nat) (p5:Option Addr) (n5 c5:Nat) (p6:Option Addr) (n6 c6:Nat) (ka:Int) (kb:Int) (skd:Int) (shd snm:ByteArray) (sop slw slh sll:Int) (sehd senm:ByteArray) (shi slo:Int) (sep:Option Addr) (sen sec:Nat) (stp:Option Addr) (stn stc:Nat) (sup:Option Addr) (sun suc:Nat) (v:Int) (w:World)
  (h1:Kp Tryz.prog w 86 #[.agg #[.slice p0 n0 c0,.slice p1 n1 c1,.slice p2 n2 c2,.slice p3 n3 c3,.slice p4 n4 c4,.slice p5 n5 c5,.slice p6 n6 c6],.agg #[.int .u8 14,.int .i64 ka,.int .i64 kb,.int .u8 skd,.string shd,.string snm,.int .u8 sop,.int .i64 slw,.int .u64 slh,.int .u64 sll,.string sehd,.string senm,.int .i64 shi,.int .i64 slo,.slice sep sen sec,.slice stp stn stc,.slice sup sun suc]] (.int .i64 v)) :
  Kp Tryz.prog w 24 #[.agg #[.slice p0 n0 c0,.slice p1 n1 c1,.slice p2 n2 c2,.slice p3 n3 c3,.slice p4 n4 c4,.slice p5 n5 c5,.slice p6 n6 c6],.agg #[.int .u8 14,.int .i64 ka,.int .i64 kb,.int .u8 skd,.string shd,.string snm,.int .u8 sop,.int .i64 slw,.int .u64 slh,.int .u64 sll,.string sehd,.string senm,.int .i64 shi,.int .i64 slo,.slice sep sen sec,.slice stp stn stc,.slice sup sun suc]] (.int .i64 v):=by
 intro y0
 have h1:=h1.up y0
 obtain ⟨V,hV⟩:∃ V,plus w y0 = V:=⟨_,rfl⟩
 rw [hV] at h1 ⊢
 clear hV
 have h1':=Lib.hid h1
 clear h1
 go_enter Tryz.func24,Tryz.ntmps24
 go_upto_region 1 with (fail)
 obtain ⟨W,yy,hW,⟨z,hz2⟩,cp,ci⟩:=box2n V _ _ 30 77
 rw [hW]
 have cp0:=cp 0 _ rfl
 have cp1:=cp 1 _ rfl
 have cp2:=cp 2 _ rfl
 have cp3:=cp 3 _ rfl
 have cp4:=cp 4 _ rfl
 have cp5:=cp 5 _ rfl
 have cp6:=cp 6 _ rfl
 have ci0:=ci 0 _ rfl
 have ci1:=ci 1 _ rfl
 have ci2:=ci 2 _ rfl
 have ci3:=ci 3 _ rfl
 have ci4:=ci 4 _ rfl
 have ci5:=ci 5 _ rfl
 have ci6:=ci 6 _ rfl
 have ci7:=ci 7 _ rfl
 have ci8:=ci 8 _ rfl
 have ci9:=ci 9 _ rfl
 have ci10:=ci 10 _ rfl
 have ci11:=ci 11 _ rfl
 have ci12:=ci 12 _ rfl
 have ci13:=ci 13 _ rfl
 have ci14:=ci 14 _ rfl
 have ci15:=ci 15 _ rfl
 have ci16:=ci 16 _ rfl
 have qh1:=Lib.hid (kp_at hz2 h1'.out)
 have hz3:=Lib.hid hz2
 clear hW hz2 cp ci h1'
 go_wp2_with (first | (go_at_call 86;with_reducible refine (qh1.out _).mono ?_;rintro r w' ⟨rfl,x,rfl⟩))
 go_ret
 exact ⟨rfl,by rw [hz3.out,plus_plus];exact ⟨_,rfl⟩⟩
set_option maxRecDepth 100000 in
set_option maxHeartbeats 8000000 in
theorem o_15 (p0:Option Addr) (n0 c0:Nat) (p1:Option Addr) (n1 c1:Nat) (p2:Option Addr) (n2 c2:Nat) (p3:Option Addr) (n3 c3:Nat) (p4:Option Addr) (n4 c4:Nat) (p5:Option Addr) (n5 c5:Nat) (p6:Option Addr) (n6 c6:Nat) (ka:Int) (kb:Int) (skd:Int) (shd snm:ByteArray) (sop slw slh sll:Int) (sehd senm:ByteArray) (shi slo:Int) (sep:Option Addr) (sen sec:Nat) (stp:Option Addr) (stn stc:Nat) (sup:Option Addr) (sun suc:Nat) (v:Int) (w:World)
  (h1:Kp Tryz.prog w 86 #[.agg #[.slice p0 n0 c0,.slice p1 n1 c1,.slice p2 n2 c2,.slice p3 n3 c3,.slice p4 n4 c4,.slice p5 n5 c5,.slice p6 n6 c6],.agg #[.int .u8 15,.int .i64 ka,.int .i64 kb,.int .u8 skd,.string shd,.string snm,.int .u8 sop,.int .i64 slw,.int .u64 slh,.int .u64 sll,.string sehd,.string senm,.int .i64 shi,.int .i64 slo,.slice sep sen sec,.slice stp stn stc,.slice sup sun suc]] (.int .i64 v)) :
  Kp Tryz.prog w 24 #[.agg #[.slice p0 n0 c0,.slice p1 n1 c1,.slice p2 n2 c2,.slice p3 n3 c3,.slice p4 n4 c4,.slice p5 n5 c5,.slice p6 n6 c6],.agg #[.int .u8 15,.int .i64 ka,.int .i64 kb,.int .u8 skd,.string shd,.string snm,.int .u8 sop,.int .i64 slw,.int .u64 slh,.int .u64 sll,.string sehd,.string senm,.int .i64 shi,.int .i64 slo,.slice sep sen sec,.slice stp stn stc,.slice sup sun suc]] (.int .i64 v):=by
 intro y0
 have h1:=h1.up y0
 obtain ⟨V,hV⟩:∃ V,plus w y0 = V:=⟨_,rfl⟩
 rw [hV] at h1 ⊢
 clear hV
 have h1':=Lib.hid h1
 clear h1
 go_enter Tryz.func24,Tryz.ntmps24
 go_upto_region 1 with (fail)
 obtain ⟨W,yy,hW,⟨z,hz2⟩,cp,ci⟩:=box2n V _ _ 30 77
 rw [hW]
 have cp0:=cp 0 _ rfl
 have cp1:=cp 1 _ rfl
 have cp2:=cp 2 _ rfl
 have cp3:=cp 3 _ rfl
 have cp4:=cp 4 _ rfl
 have cp5:=cp 5 _ rfl
 have cp6:=cp 6 _ rfl
 have ci0:=ci 0 _ rfl
 have ci1:=ci 1 _ rfl
 have ci2:=ci 2 _ rfl
 have ci3:=ci 3 _ rfl
 have ci4:=ci 4 _ rfl
 have ci5:=ci 5 _ rfl
 have ci6:=ci 6 _ rfl
 have ci7:=ci 7 _ rfl
 have ci8:=ci 8 _ rfl
 have ci9:=ci 9 _ rfl
 have ci10:=ci 10 _ rfl
 have ci11:=ci 11 _ rfl
 have ci12:=ci 12 _ rfl
 have ci13:=ci 13 _ rfl
 have ci14:=ci 14 _ rfl
 have ci15:=ci 15 _ rfl
 have ci16:=ci 16 _ rfl
 have qh1:=Lib.hid (kp_at hz2 h1'.out)
 have hz3:=Lib.hid hz2
 clear hW hz2 cp ci h1'
 go_wp2_with (first | (go_at_call 86;with_reducible refine (qh1.out _).mono ?_;rintro r w' ⟨rfl,x,rfl⟩))
 go_ret
 exact ⟨rfl,by rw [hz3.out,plus_plus];exact ⟨_,rfl⟩⟩
set_option maxRecDepth 100000 in
set_option maxHeartbeats 8000000 in
theorem o_12 (p0:Option Addr) (n0 c0:Nat) (p1:Option Addr) (n1 c1:Nat) (p2:Option Addr) (n2 c2:Nat) (p3:Option Addr) (n3 c3:Nat) (p5:Option Addr) (n5 c5:Nat) (p6:Option Addr) (n6 c6:Nat) (pa:Addr) (n nc:Nat) (xn:ByteArray) (pb:Addr) (m mc:Nat) (lp:Option Addr) (ln lc:Nat) (dn:ByteArray) (gp:Option Addr) (gn gc:Nat) (eop elw elh ell:Int) (ehd enm:ByteArray) (ehi elo:Int) (ep:Option Addr) (en ec:Nat) (kd:Int)  (skd:Int) (shd snm:ByteArray) (sop slw slh sll:Int) (sehd senm:ByteArray) (shi slo:Int) (sep:Option Addr) (sen sec:Nat) (stp:Option Addr) (stn stc:Nat) (sup:Option Addr) (sun suc:Nat) (b:Bool) (v:Int) (w:World) (k:Nat) (hk:k < n) (hc:CellsAt w (pa.add (k * 5)) [.string xn,.slice (some pb) m mc,.slice lp ln lc,.string dn,.slice gp gn gc]) (j:Nat) (hj:j < m) (hc2:CellsAt w (pb.add (j * 10)) [.int .u8 eop,.int .i64 elw,.int .u64 elh,.int .u64 ell,.string ehd,.string enm,.int .i64 ehi,.int .i64 elo,.slice ep en ec,.int .u8 kd])
  (h1:Kp Tryz.prog w 84 #[.agg #[.slice p0 n0 c0,.slice p1 n1 c1,.slice p2 n2 c2,.slice p3 n3 c3,.slice (some pa) n nc,.slice p5 n5 c5,.slice p6 n6 c6],.int .i64 (-1),.agg #[.int .u8 eop,.int .i64 elw,.int .u64 elh,.int .u64 ell,.string ehd,.string enm,.int .i64 ehi,.int .i64 elo,.slice ep en ec]] (.bool b))
  (hv:(if b then (0:Int) else 7) = v) :
  Kp Tryz.prog w 24 #[.agg #[.slice p0 n0 c0,.slice p1 n1 c1,.slice p2 n2 c2,.slice p3 n3 c3,.slice (some pa) n nc,.slice p5 n5 c5,.slice p6 n6 c6],.agg #[.int .u8 12,.int .i64 (k:Int),.int .i64 (j:Int),.int .u8 skd,.string shd,.string snm,.int .u8 sop,.int .i64 slw,.int .u64 slh,.int .u64 sll,.string sehd,.string senm,.int .i64 shi,.int .i64 slo,.slice sep sen sec,.slice stp stn stc,.slice sup sun suc]] (.int .i64 v):=by
 intro y0
 have h1:=h1.up y0
 have hc:=hc.plus y0
 have hc2:=hc2.plus y0
 obtain ⟨V,hV⟩:∃ V,plus w y0 = V:=⟨_,rfl⟩
 rw [hV] at h1 hc hc2 ⊢
 clear hV
 have h1':=Lib.hid h1
 have hc':=Lib.hid hc
 have hc2':=Lib.hid hc2
 clear h1 hc hc2
 have hv0:=Lib.hid hv
 clear hv
 go_enter Tryz.func24,Tryz.ntmps24
 go_upto_region 1 with (fail)
 obtain ⟨W,yy,hW,⟨z,hz2⟩,cp,ci⟩:=box2n V _ _ 30 77
 rw [hW]
 have cp0:=cp 0 _ rfl
 have cp1:=cp 1 _ rfl
 have cp2:=cp 2 _ rfl
 have cp3:=cp 3 _ rfl
 have cp4:=cp 4 _ rfl
 have cp5:=cp 5 _ rfl
 have cp6:=cp 6 _ rfl
 have ci0:=ci 0 _ rfl
 have ci1:=ci 1 _ rfl
 have ci2:=ci 2 _ rfl
 have ci3:=ci 3 _ rfl
 have ci4:=ci 4 _ rfl
 have ci5:=ci 5 _ rfl
 have ci6:=ci 6 _ rfl
 have ci7:=ci 7 _ rfl
 have ci8:=ci 8 _ rfl
 have ci9:=ci 9 _ rfl
 have ci10:=ci 10 _ rfl
 have ci11:=ci 11 _ rfl
 have ci12:=ci 12 _ rfl
 have ci13:=ci 13 _ rfl
 have ci14:=ci 14 _ rfl
 have ci15:=ci 15 _ rfl
 have ci16:=ci 16 _ rfl
 have hcW:=cells_up hz2 hc'.out
 have d0:=fun y=>(hcW.plus y).c0 _ rfl
 have d1:=fun y=>(hcW.plus y).cs 0 _ rfl
 have d2:=fun y=>(hcW.plus y).cs 1 _ rfl
 have d3:=fun y=>(hcW.plus y).cs 2 _ rfl
 have d4:=fun y=>(hcW.plus y).cs 3 _ rfl
 have hc2W:=cells_up hz2 hc2'.out
 have e0:=fun y=>(hc2W.plus y).c0 _ rfl
 have e1:=fun y=>(hc2W.plus y).cs 0 _ rfl
 have e2:=fun y=>(hc2W.plus y).cs 1 _ rfl
 have e3:=fun y=>(hc2W.plus y).cs 2 _ rfl
 have e4:=fun y=>(hc2W.plus y).cs 3 _ rfl
 have e5:=fun y=>(hc2W.plus y).cs 4 _ rfl
 have e6:=fun y=>(hc2W.plus y).cs 5 _ rfl
 have e7:=fun y=>(hc2W.plus y).cs 6 _ rfl
 have e8:=fun y=>(hc2W.plus y).cs 7 _ rfl
 have e9:=fun y=>(hc2W.plus y).cs 8 _ rfl
 have qh1:=Lib.hid (kp_at hz2 h1'.out)
 have hz3:=Lib.hid hz2
 clear hW hz2 cp ci h1' hc' hc2' hcW hc2W
 have hv:=hv0.out
 clear hv0
 go_upto_region 9 with (fail)
 refine wp_region_own (by kernel_rfl) (by kernel_rfl) ?_
 repeat (go_big_quiet_step (first | (with_reducible exact qh1.out _)))
 refine wpQuiet_nil ?_
 rintro _ ⟨y19,rfl⟩
 cases b with
 | true =>
  replace hv:=Lib.hid hv
  go_wp2_with (fail)
  go_ret
  exact ⟨congrArg (fun z=>Ending.returned (Value.int .i64 z)) hv.out,by rw [hz3.out,plus_plus];exact ⟨_,rfl⟩⟩
 | false =>
  replace hv:=Lib.hid hv
  go_wp2_with (fail)
  go_ret
  exact ⟨congrArg (fun z=>Ending.returned (Value.int .i64 z)) hv.out,by rw [hz3.out,plus_plus];exact ⟨_,rfl⟩⟩
end Go.Proofs.YtlmhldcebllckaaGreat

/-
  WHAT IS PROVED HERE: a part of the proof (made narrower and merged by program; the parts: Zj).
-/
import Derived.Test.YtobhijbncchpiaaGreatM24
namespace Go.Proofs.YtobhijbncchpiaaGreat
open Go.RowKit
set_option maxRecDepth 100000 in
set_option maxHeartbeats 8000000 in
theorem w_header (p0:Option Addr) (n0 c0:Nat) (p1:Option Addr) (n1 c1:Nat) (p2:Option Addr) (n2 c2:Nat) (p3:Option Addr) (n3 c3:Nat) (p4:Option Addr) (n4 c4:Nat) (p5:Option Addr) (n5 c5:Nat) (p6:Option Addr) (n6 c6:Nat)  (ka:Int) (skd:Int) (shd snm:ByteArray) (sop slw slh sll:Int) (sehd senm:ByteArray) (shi slo:Int) (sep:Option Addr) (sen sec:Nat) (stp:Option Addr) (stn stc:Nat) (sup:Option Addr) (sun suc:Nat) (v:Int) (w:World) 
  (h1:Kp Tryz.prog w 81 #[.agg #[.slice p0 n0 c0,.slice p1 n1 c1,.slice p2 n2 c2,.slice p3 n3 c3,.slice p4 n4 c4,.slice p5 n5 c5,.slice p6 n6 c6],.int .i64 ka] (.int .i64 v)) :
  Kp Tryz.prog w 31 #[.agg #[.slice p0 n0 c0,.slice p1 n1 c1,.slice p2 n2 c2,.slice p3 n3 c3,.slice p4 n4 c4,.slice p5 n5 c5,.slice p6 n6 c6],.agg #[.int .u8 1,.int .i64 ka,.int .i64 0,.int .u8 skd,.string shd,.string snm,.int .u8 sop,.int .i64 slw,.int .u64 slh,.int .u64 sll,.string sehd,.string senm,.int .i64 shi,.int .i64 slo,.slice sep sen sec,.slice stp stn stc,.slice sup sun suc]] (.int .i64 v):=by
 intro y0
 have h1:=h1.up y0
 obtain⟨V,hV⟩:∃ V,plus w y0=V:=⟨_,rfl⟩
 rw [hV] at h1 ⊢
 clear hV
 have h1':=Lib.hid h1
 clear h1
 go_enter Tryz.func31,Tryz.ntmps31
 go_upto_region 1 with (fail)
 obtain⟨W,yy,hW,⟨z,hz2⟩,cp,ci⟩:=box2n V _ _ 30 49
 rw [hW]
 have cp0:=cp 0 _ rfl
 have cp1:=cp 1 _ rfl
 have cp2:=cp 2 _ rfl
 have cp3:=cp 3 _ rfl
 have cp4:=cp 4 _ rfl
 have cp5:=cp 5 _ rfl
 have cp6:=cp 6 _ rfl
 have ci0:=ci 0 _ rfl
 have ci1:=ci 1 _ rfl
 have ci2:=ci 2 _ rfl
 have ci3:=ci 3 _ rfl
 have ci4:=ci 4 _ rfl
 have ci5:=ci 5 _ rfl
 have ci6:=ci 6 _ rfl
 have ci7:=ci 7 _ rfl
 have ci8:=ci 8 _ rfl
 have ci9:=ci 9 _ rfl
 have ci10:=ci 10 _ rfl
 have ci11:=ci 11 _ rfl
 have ci12:=ci 12 _ rfl
 have ci13:=ci 13 _ rfl
 have ci14:=ci 14 _ rfl
 have ci15:=ci 15 _ rfl
 have ci16:=ci 16 _ rfl
 have qh1:=Lib.hid (kp_at hz2 h1'.out)
 have hz3:=Lib.hid hz2
 clear hW hz2 cp ci h1'
 refine wp_region_own (by kernel_rfl) (by kernel_rfl) ?_
 repeat (go_big_quiet_step (fail))
 refine wpQuiet_nil ?_
 rintro _ ⟨y1,rfl⟩
 go_wp2_with (first|(go_at_call 81;with_reducible refine (qh1.out _).mono ?_;rintro r w' ⟨rfl,x,rfl⟩))
 go_ret
 exact⟨rfl,by rw [hz3.out,plus_plus];exact⟨_,rfl⟩⟩
set_option maxRecDepth 100000 in
set_option maxHeartbeats 8000000 in
theorem w_field (p1:Option Addr) (n1 c1:Nat) (p2:Option Addr) (n2 c2:Nat) (p3:Option Addr) (n3 c3:Nat) (p4:Option Addr) (n4 c4:Nat) (p5:Option Addr) (n5 c5:Nat) (p6:Option Addr) (n6 c6:Nat) (pa:Addr) (n nc:Nat) (xn:ByteArray) (pb:Addr) (m mc:Nat) (yn:ByteArray) (yw:Int)  (skd:Int) (shd snm:ByteArray) (sop slw slh sll:Int) (sehd senm:ByteArray) (shi slo:Int) (sep:Option Addr) (sen sec:Nat) (stp:Option Addr) (stn stc:Nat) (sup:Option Addr) (sun suc:Nat) (I v:Int) (w:World) (k:Nat) (hk:k < n) (hc:CellsAt w (pa.add (k*2)) [.string xn,.slice (some pb) m mc]) (j:Nat) (hj:j < m) (hc2:CellsAt w (pb.add (j*2)) [.string yn,.int .i64 yw])
  (h1:Kp Tryz.prog w 83 #[.agg #[.slice (some pa) n nc,.slice p1 n1 c1,.slice p2 n2 c2,.slice p3 n3 c3,.slice p4 n4 c4,.slice p5 n5 c5,.slice p6 n6 c6],.int .i64 (k:Int),.string yn] (.int .i64 I))
  (h2:Kp Tryz.prog w 82 #[.int .i64 I,.int .i64 (j:Int)] (.int .i64 v)) :
  Kp Tryz.prog w 31 #[.agg #[.slice (some pa) n nc,.slice p1 n1 c1,.slice p2 n2 c2,.slice p3 n3 c3,.slice p4 n4 c4,.slice p5 n5 c5,.slice p6 n6 c6],.agg #[.int .u8 2,.int .i64 (k:Int),.int .i64 (j:Int),.int .u8 skd,.string shd,.string snm,.int .u8 sop,.int .i64 slw,.int .u64 slh,.int .u64 sll,.string sehd,.string senm,.int .i64 shi,.int .i64 slo,.slice sep sen sec,.slice stp stn stc,.slice sup sun suc]] (.int .i64 v):=by
 intro y0
 have h1:=h1.up y0
 have h2:=h2.up y0
 have hc:=hc.plus y0
 have hc2:=hc2.plus y0
 obtain⟨V,hV⟩:∃ V,plus w y0=V:=⟨_,rfl⟩
 rw [hV] at h1 h2 hc hc2 ⊢
 clear hV
 have h1':=Lib.hid h1
 have h2':=Lib.hid h2
 have hc':=Lib.hid hc
 have hc2':=Lib.hid hc2
 clear h1 h2 hc hc2
 go_enter Tryz.func31,Tryz.ntmps31
 go_upto_region 1 with (fail)
 obtain⟨W,yy,hW,⟨z,hz2⟩,cp,ci⟩:=box2n V _ _ 30 49
 rw [hW]
 have cp0:=cp 0 _ rfl
 have cp1:=cp 1 _ rfl
 have cp2:=cp 2 _ rfl
 have cp3:=cp 3 _ rfl
 have cp4:=cp 4 _ rfl
 have cp5:=cp 5 _ rfl
 have cp6:=cp 6 _ rfl
 have ci0:=ci 0 _ rfl
 have ci1:=ci 1 _ rfl
 have ci2:=ci 2 _ rfl
 have ci3:=ci 3 _ rfl
 have ci4:=ci 4 _ rfl
 have ci5:=ci 5 _ rfl
 have ci6:=ci 6 _ rfl
 have ci7:=ci 7 _ rfl
 have ci8:=ci 8 _ rfl
 have ci9:=ci 9 _ rfl
 have ci10:=ci 10 _ rfl
 have ci11:=ci 11 _ rfl
 have ci12:=ci 12 _ rfl
 have ci13:=ci 13 _ rfl
 have ci14:=ci 14 _ rfl
 have ci15:=ci 15 _ rfl
 have ci16:=ci 16 _ rfl
 have hcW:=cells_up hz2 hc'.out
 have d0:=fun y=>(hcW.plus y).c0 _ rfl
 have d1:=fun y=>(hcW.plus y).cs 0 _ rfl
 have hcX:=cells_up hz2 hc2'.out
 have e0:=fun y=>(hcX.plus y).c0 _ rfl
 have e1:=fun y=>(hcX.plus y).cs 0 _ rfl
 have qh1:=Lib.hid (kp_at hz2 h1'.out)
 have qh2:=Lib.hid (kp_at hz2 h2'.out)
 have hz3:=Lib.hid hz2
 clear hW hz2 cp ci h1' h2' hc' hc2' hcW hcX
 refine wp_region_own (by kernel_rfl) (by kernel_rfl) ?_
 repeat (go_big_quiet_step (fail))
 refine wpQuiet_nil ?_
 rintro _ ⟨y1,rfl⟩
 go_upto_region 6 with (fail)
 refine wp_region_own (by kernel_rfl) (by kernel_rfl) ?_
 repeat (go_big_quiet_step (first|(with_reducible exact qh1.out _)|(with_reducible exact qh2.out _)))
 refine wpQuiet_nil ?_
 rintro _ ⟨y2,rfl⟩
 go_wp2_with (first|(go_at_call 83;with_reducible refine (qh1.out _).mono ?_;rintro r w' ⟨rfl,x,rfl⟩)|(go_at_call 82;with_reducible refine (qh2.out _).mono ?_;rintro r w' ⟨rfl,x,rfl⟩))
 go_ret
 exact⟨rfl,by rw [hz3.out,plus_plus];exact⟨_,rfl⟩⟩
set_option maxRecDepth 100000 in
set_option maxHeartbeats 8000000 in
theorem w_meta (p0:Option Addr) (n0 c0:Nat) (p2:Option Addr) (n2 c2:Nat) (p3:Option Addr) (n3 c3:Nat) (p4:Option Addr) (n4 c4:Nat) (p5:Option Addr) (n5 c5:Nat) (p6:Option Addr) (n6 c6:Nat) (pa:Addr) (n nc:Nat) (yn:ByteArray) (yw:Int)  (skd:Int) (shd snm:ByteArray) (sop slw slh sll:Int) (sehd senm:ByteArray) (shi slo:Int) (sep:Option Addr) (sen sec:Nat) (stp:Option Addr) (stn stc:Nat) (sup:Option Addr) (sun suc:Nat) (I v:Int) (w:World) (k:Nat) (hk:k < n) (hc:CellsAt w (pa.add (k*2)) [.string yn,.int .i64 yw])
  (h1:Kp Tryz.prog w 84 #[.agg #[.slice p0 n0 c0,.slice (some pa) n nc,.slice p2 n2 c2,.slice p3 n3 c3,.slice p4 n4 c4,.slice p5 n5 c5,.slice p6 n6 c6],.string yn] (.int .i64 I))
  (h2:Kp Tryz.prog w 82 #[.int .i64 I,.int .i64 (k:Int)] (.int .i64 v)) :
  Kp Tryz.prog w 31 #[.agg #[.slice p0 n0 c0,.slice (some pa) n nc,.slice p2 n2 c2,.slice p3 n3 c3,.slice p4 n4 c4,.slice p5 n5 c5,.slice p6 n6 c6],.agg #[.int .u8 3,.int .i64 (k:Int),.int .i64 0,.int .u8 skd,.string shd,.string snm,.int .u8 sop,.int .i64 slw,.int .u64 slh,.int .u64 sll,.string sehd,.string senm,.int .i64 shi,.int .i64 slo,.slice sep sen sec,.slice stp stn stc,.slice sup sun suc]] (.int .i64 v):=by
 intro y0
 have h1:=h1.up y0
 have h2:=h2.up y0
 have hc:=hc.plus y0
 obtain⟨V,hV⟩:∃ V,plus w y0=V:=⟨_,rfl⟩
 rw [hV] at h1 h2 hc ⊢
 clear hV
 have h1':=Lib.hid h1
 have h2':=Lib.hid h2
 have hc':=Lib.hid hc
 clear h1 h2 hc
 go_enter Tryz.func31,Tryz.ntmps31
 go_upto_region 1 with (fail)
 obtain⟨W,yy,hW,⟨z,hz2⟩,cp,ci⟩:=box2n V _ _ 30 49
 rw [hW]
 have cp0:=cp 0 _ rfl
 have cp1:=cp 1 _ rfl
 have cp2:=cp 2 _ rfl
 have cp3:=cp 3 _ rfl
 have cp4:=cp 4 _ rfl
 have cp5:=cp 5 _ rfl
 have cp6:=cp 6 _ rfl
 have ci0:=ci 0 _ rfl
 have ci1:=ci 1 _ rfl
 have ci2:=ci 2 _ rfl
 have ci3:=ci 3 _ rfl
 have ci4:=ci 4 _ rfl
 have ci5:=ci 5 _ rfl
 have ci6:=ci 6 _ rfl
 have ci7:=ci 7 _ rfl
 have ci8:=ci 8 _ rfl
 have ci9:=ci 9 _ rfl
 have ci10:=ci 10 _ rfl
 have ci11:=ci 11 _ rfl
 have ci12:=ci 12 _ rfl
 have ci13:=ci 13 _ rfl
 have ci14:=ci 14 _ rfl
 have ci15:=ci 15 _ rfl
 have ci16:=ci 16 _ rfl
 have hcW:=cells_up hz2 hc'.out
 have d0:=fun y=>(hcW.plus y).c0 _ rfl
 have d1:=fun y=>(hcW.plus y).cs 0 _ rfl
 have qh1:=Lib.hid (kp_at hz2 h1'.out)
 have qh2:=Lib.hid (kp_at hz2 h2'.out)
 have hz3:=Lib.hid hz2
 clear hW hz2 cp ci h1' h2' hc' hcW
 refine wp_region_own (by kernel_rfl) (by kernel_rfl) ?_
 repeat (go_big_quiet_step (fail))
 refine wpQuiet_nil ?_
 rintro _ ⟨y1,rfl⟩
 go_upto_region 8 with (fail)
 refine wp_region_own (by kernel_rfl) (by kernel_rfl) ?_
 repeat (go_big_quiet_step (first|(with_reducible exact qh1.out _)|(with_reducible exact qh2.out _)))
 refine wpQuiet_nil ?_
 rintro _ ⟨y2,rfl⟩
 go_wp2_with (first|(go_at_call 84;with_reducible refine (qh1.out _).mono ?_;rintro r w' ⟨rfl,x,rfl⟩)|(go_at_call 82;with_reducible refine (qh2.out _).mono ?_;rintro r w' ⟨rfl,x,rfl⟩))
 go_ret
 exact⟨rfl,by rw [hz3.out,plus_plus];exact⟨_,rfl⟩⟩
set_option maxRecDepth 100000 in
set_option maxHeartbeats 8000000 in
theorem w_state (p0:Option Addr) (n0 c0:Nat) (p1:Option Addr) (n1 c1:Nat) (p3:Option Addr) (n3 c3:Nat) (p4:Option Addr) (n4 c4:Nat) (p5:Option Addr) (n5 c5:Nat) (p6:Option Addr) (n6 c6:Nat) (pa:Addr) (n nc:Nat) (xn:ByteArray) (tp:Option Addr) (tn tc:Nat) (xt:ByteArray) (kp:Option Addr) (kn kc:Nat) (cp:Option Addr) (cn cc:Nat)  (skd:Int) (shd snm:ByteArray) (sop slw slh sll:Int) (sehd senm:ByteArray) (shi slo:Int) (sep:Option Addr) (sen sec:Nat) (stp:Option Addr) (stn stc:Nat) (sup:Option Addr) (sun suc:Nat) (I v:Int) (bI:Bool) (w:World) (k:Nat) (hk:k < n) (hc:CellsAt w (pa.add (k*5)) [.string xn,.slice tp tn tc,.string xt,.slice kp kn kc,.slice cp cn cc])
  (h1:Kp Tryz.prog w 85 #[.agg #[.slice p0 n0 c0,.slice p1 n1 c1,.slice (some pa) n nc,.slice p3 n3 c3,.slice p4 n4 c4,.slice p5 n5 c5,.slice p6 n6 c6],.string xn] (.tuple #[.int .i64 I,.bool bI]))
  (h2:Kp Tryz.prog w 82 #[.int .i64 I,.int .i64 (k:Int)] (.int .i64 v)) :
  Kp Tryz.prog w 31 #[.agg #[.slice p0 n0 c0,.slice p1 n1 c1,.slice (some pa) n nc,.slice p3 n3 c3,.slice p4 n4 c4,.slice p5 n5 c5,.slice p6 n6 c6],.agg #[.int .u8 4,.int .i64 (k:Int),.int .i64 0,.int .u8 skd,.string shd,.string snm,.int .u8 sop,.int .i64 slw,.int .u64 slh,.int .u64 sll,.string sehd,.string senm,.int .i64 shi,.int .i64 slo,.slice sep sen sec,.slice stp stn stc,.slice sup sun suc]] (.int .i64 v):=by
 intro y0
 have h1:=h1.up y0
 have h2:=h2.up y0
 have hc:=hc.plus y0
 obtain⟨V,hV⟩:∃ V,plus w y0=V:=⟨_,rfl⟩
 rw [hV] at h1 h2 hc ⊢
 clear hV
 have h1':=Lib.hid h1
 have h2':=Lib.hid h2
 have hc':=Lib.hid hc
 clear h1 h2 hc
 go_enter Tryz.func31,Tryz.ntmps31
 go_upto_region 1 with (fail)
 obtain⟨W,yy,hW,⟨z,hz2⟩,cp,ci⟩:=box2n V _ _ 30 49
 rw [hW]
 have cp0:=cp 0 _ rfl
 have cp1:=cp 1 _ rfl
 have cp2:=cp 2 _ rfl
 have cp3:=cp 3 _ rfl
 have cp4:=cp 4 _ rfl
 have cp5:=cp 5 _ rfl
 have cp6:=cp 6 _ rfl
 have ci0:=ci 0 _ rfl
 have ci1:=ci 1 _ rfl
 have ci2:=ci 2 _ rfl
 have ci3:=ci 3 _ rfl
 have ci4:=ci 4 _ rfl
 have ci5:=ci 5 _ rfl
 have ci6:=ci 6 _ rfl
 have ci7:=ci 7 _ rfl
 have ci8:=ci 8 _ rfl
 have ci9:=ci 9 _ rfl
 have ci10:=ci 10 _ rfl
 have ci11:=ci 11 _ rfl
 have ci12:=ci 12 _ rfl
 have ci13:=ci 13 _ rfl
 have ci14:=ci 14 _ rfl
 have ci15:=ci 15 _ rfl
 have ci16:=ci 16 _ rfl
 have hcW:=cells_up hz2 hc'.out
 have d0:=fun y=>(hcW.plus y).c0 _ rfl
 have d1:=fun y=>(hcW.plus y).cs 0 _ rfl
 have d2:=fun y=>(hcW.plus y).cs 1 _ rfl
 have d3:=fun y=>(hcW.plus y).cs 2 _ rfl
 have d4:=fun y=>(hcW.plus y).cs 3 _ rfl
 have qh1:=Lib.hid (kp_at hz2 h1'.out)
 have qh2:=Lib.hid (kp_at hz2 h2'.out)
 have hz3:=Lib.hid hz2
 clear hW hz2 cp ci h1' h2' hc' hcW
 refine wp_region_own (by kernel_rfl) (by kernel_rfl) ?_
 repeat (go_big_quiet_step (fail))
 refine wpQuiet_nil ?_
 rintro _ ⟨y1,rfl⟩
 go_upto_region 10 with (fail)
 refine wp_region_own (by kernel_rfl) (by kernel_rfl) ?_
 repeat (go_big_quiet_step (first|(with_reducible exact qh1.out _)|(with_reducible exact qh2.out _)))
 refine wpQuiet_nil ?_
 rintro _ ⟨y2,rfl⟩
 go_wp2_with (first|(go_at_call 85;with_reducible refine (qh1.out _).mono ?_;rintro r w' ⟨rfl,x,rfl⟩)|(go_at_call 82;with_reducible refine (qh2.out _).mono ?_;rintro r w' ⟨rfl,x,rfl⟩))
 go_ret
 exact⟨rfl,by rw [hz3.out,plus_plus];exact⟨_,rfl⟩⟩
set_option maxRecDepth 100000 in
set_option maxHeartbeats 8000000 in
theorem w_take (p0:Option Addr) (n0 c0:Nat) (p1:Option Addr) (n1 c1:Nat) (p3:Option Addr) (n3 c3:Nat) (p4:Option Addr) (n4 c4:Nat) (p5:Option Addr) (n5 c5:Nat) (p6:Option Addr) (n6 c6:Nat) (pa:Addr) (n nc:Nat) (xn:ByteArray) (pb:Addr) (m mc:Nat) (xt:ByteArray) (kp:Option Addr) (kn kc:Nat) (cp:Option Addr) (cn cc:Nat) (xs:ByteArray)  (skd:Int) (shd snm:ByteArray) (sop slw slh sll:Int) (sehd senm:ByteArray) (shi slo:Int) (sep:Option Addr) (sen sec:Nat) (stp:Option Addr) (stn stc:Nat) (sup:Option Addr) (sun suc:Nat) (I v:Int) (w:World) (k:Nat) (hk:k < n) (hc:CellsAt w (pa.add (k*5)) [.string xn,.slice (some pb) m mc,.string xt,.slice kp kn kc,.slice cp cn cc]) (j:Nat) (hj:j < m) (hc2:CellsAt w (pb.add (j*1)) [.string xs])
  (h1:Kp Tryz.prog w 87 #[.agg #[.slice p0 n0 c0,.slice p1 n1 c1,.slice (some pa) n nc,.slice p3 n3 c3,.slice p4 n4 c4,.slice p5 n5 c5,.slice p6 n6 c6],.string xs] (.int .i64 I))
  (h2:Kp Tryz.prog w 86 #[.int .i64 I] (.int .i64 v)) :
  Kp Tryz.prog w 31 #[.agg #[.slice p0 n0 c0,.slice p1 n1 c1,.slice (some pa) n nc,.slice p3 n3 c3,.slice p4 n4 c4,.slice p5 n5 c5,.slice p6 n6 c6],.agg #[.int .u8 5,.int .i64 (k:Int),.int .i64 (j:Int),.int .u8 skd,.string shd,.string snm,.int .u8 sop,.int .i64 slw,.int .u64 slh,.int .u64 sll,.string sehd,.string senm,.int .i64 shi,.int .i64 slo,.slice sep sen sec,.slice stp stn stc,.slice sup sun suc]] (.int .i64 v):=by
 intro y0
 have h1:=h1.up y0
 have h2:=h2.up y0
 have hc:=hc.plus y0
 have hc2:=hc2.plus y0
 obtain⟨V,hV⟩:∃ V,plus w y0=V:=⟨_,rfl⟩
 rw [hV] at h1 h2 hc hc2 ⊢
 clear hV
 have h1':=Lib.hid h1
 have h2':=Lib.hid h2
 have hc':=Lib.hid hc
 have hc2':=Lib.hid hc2
 clear h1 h2 hc hc2
 go_enter Tryz.func31,Tryz.ntmps31
 go_upto_region 1 with (fail)
 obtain⟨W,yy,hW,⟨z,hz2⟩,cp,ci⟩:=box2n V _ _ 30 49
 rw [hW]
 have cp0:=cp 0 _ rfl
 have cp1:=cp 1 _ rfl
 have cp2:=cp 2 _ rfl
 have cp3:=cp 3 _ rfl
 have cp4:=cp 4 _ rfl
 have cp5:=cp 5 _ rfl
 have cp6:=cp 6 _ rfl
 have ci0:=ci 0 _ rfl
 have ci1:=ci 1 _ rfl
 have ci2:=ci 2 _ rfl
 have ci3:=ci 3 _ rfl
 have ci4:=ci 4 _ rfl
 have ci5:=ci 5 _ rfl
 have ci6:=ci 6 _ rfl
 have ci7:=ci 7 _ rfl
 have ci8:=ci 8 _ rfl
 have ci9:=ci 9 _ rfl
 have ci10:=ci 10 _ rfl
 have ci11:=ci 11 _ rfl
 have ci12:=ci 12 _ rfl
 have ci13:=ci 13 _ rfl
 have ci14:=ci 14 _ rfl
 have ci15:=ci 15 _ rfl
 have ci16:=ci 16 _ rfl
 have hcW:=cells_up hz2 hc'.out
 have d0:=fun y=>(hcW.plus y).c0 _ rfl
 have d1:=fun y=>(hcW.plus y).cs 0 _ rfl
 have d2:=fun y=>(hcW.plus y).cs 1 _ rfl
 have d3:=fun y=>(hcW.plus y).cs 2 _ rfl
 have d4:=fun y=>(hcW.plus y).cs 3 _ rfl
 have hcX:=cells_up hz2 hc2'.out
 have e0:=fun y=>(hcX.plus y).c0 _ rfl
 simp only [Nat.mul_one] at e0
 have qh1:=Lib.hid (kp_at hz2 h1'.out)
 have qh2:=Lib.hid (kp_at hz2 h2'.out)
 have hz3:=Lib.hid hz2
 clear hW hz2 cp ci h1' h2' hc' hc2' hcW hcX
 refine wp_region_own (by kernel_rfl) (by kernel_rfl) ?_
 repeat (go_big_quiet_step (fail))
 refine wpQuiet_nil ?_
 rintro _ ⟨y1,rfl⟩
 go_upto_region 13 with (fail)
 refine wp_region_own (by kernel_rfl) (by kernel_rfl) ?_
 repeat (go_big_quiet_step (first|(with_reducible exact qh1.out _)|(with_reducible exact qh2.out _)))
 refine wpQuiet_nil ?_
 rintro _ ⟨y2,rfl⟩
 go_wp2_with (first|(go_at_call 87;with_reducible refine (qh1.out _).mono ?_;rintro r w' ⟨rfl,x,rfl⟩)|(go_at_call 86;with_reducible refine (qh2.out _).mono ?_;rintro r w' ⟨rfl,x,rfl⟩))
 go_ret
 exact⟨rfl,by rw [hz3.out,plus_plus];exact⟨_,rfl⟩⟩
set_option maxRecDepth 100000 in
set_option maxHeartbeats 8000000 in
theorem w_next (p0:Option Addr) (n0 c0:Nat) (p1:Option Addr) (n1 c1:Nat) (p3:Option Addr) (n3 c3:Nat) (p4:Option Addr) (n4 c4:Nat) (p5:Option Addr) (n5 c5:Nat) (p6:Option Addr) (n6 c6:Nat) (pa:Addr) (n nc:Nat) (xn:ByteArray) (tp:Option Addr) (tn tc:Nat) (xt:ByteArray) (kp:Option Addr) (kn kc:Nat) (cp:Option Addr) (cn cc:Nat)  (skd:Int) (shd snm:ByteArray) (sop slw slh sll:Int) (sehd senm:ByteArray) (shi slo:Int) (sep:Option Addr) (sen sec:Nat) (stp:Option Addr) (stn stc:Nat) (sup:Option Addr) (sun suc:Nat) (v:Int) (w:World) (k:Nat) (hk:k < n) (hc:CellsAt w (pa.add (k*5)) [.string xn,.slice tp tn tc,.string xt,.slice kp kn kc,.slice cp cn cc])
  (h1:Kp Tryz.prog w 88 #[.agg #[.slice p0 n0 c0,.slice p1 n1 c1,.slice (some pa) n nc,.slice p3 n3 c3,.slice p4 n4 c4,.slice p5 n5 c5,.slice p6 n6 c6],.agg #[.string xn,.slice tp tn tc,.string xt,.slice kp kn kc,.slice cp cn cc]] (.int .i64 v)) :
  Kp Tryz.prog w 31 #[.agg #[.slice p0 n0 c0,.slice p1 n1 c1,.slice (some pa) n nc,.slice p3 n3 c3,.slice p4 n4 c4,.slice p5 n5 c5,.slice p6 n6 c6],.agg #[.int .u8 6,.int .i64 (k:Int),.int .i64 0,.int .u8 skd,.string shd,.string snm,.int .u8 sop,.int .i64 slw,.int .u64 slh,.int .u64 sll,.string sehd,.string senm,.int .i64 shi,.int .i64 slo,.slice sep sen sec,.slice stp stn stc,.slice sup sun suc]] (.int .i64 v):=by
 intro y0
 have h1:=h1.up y0
 have hc:=hc.plus y0
 obtain⟨V,hV⟩:∃ V,plus w y0=V:=⟨_,rfl⟩
 rw [hV] at h1 hc ⊢
 clear hV
 have h1':=Lib.hid h1
 have hc':=Lib.hid hc
 clear h1 hc
 go_enter Tryz.func31,Tryz.ntmps31
 go_upto_region 1 with (fail)
 obtain⟨W,yy,hW,⟨z,hz2⟩,cp,ci⟩:=box2n V _ _ 30 49
 rw [hW]
 have cp0:=cp 0 _ rfl
 have cp1:=cp 1 _ rfl
 have cp2:=cp 2 _ rfl
 have cp3:=cp 3 _ rfl
 have cp4:=cp 4 _ rfl
 have cp5:=cp 5 _ rfl
 have cp6:=cp 6 _ rfl
 have ci0:=ci 0 _ rfl
 have ci1:=ci 1 _ rfl
 have ci2:=ci 2 _ rfl
 have ci3:=ci 3 _ rfl
 have ci4:=ci 4 _ rfl
 have ci5:=ci 5 _ rfl
 have ci6:=ci 6 _ rfl
 have ci7:=ci 7 _ rfl
 have ci8:=ci 8 _ rfl
 have ci9:=ci 9 _ rfl
 have ci10:=ci 10 _ rfl
 have ci11:=ci 11 _ rfl
 have ci12:=ci 12 _ rfl
 have ci13:=ci 13 _ rfl
 have ci14:=ci 14 _ rfl
 have ci15:=ci 15 _ rfl
 have ci16:=ci 16 _ rfl
 have hcW:=cells_up hz2 hc'.out
 have d0:=fun y=>(hcW.plus y).c0 _ rfl
 have d1:=fun y=>(hcW.plus y).cs 0 _ rfl
 have d2:=fun y=>(hcW.plus y).cs 1 _ rfl
 have d3:=fun y=>(hcW.plus y).cs 2 _ rfl
 have d4:=fun y=>(hcW.plus y).cs 3 _ rfl
 have qh1:=Lib.hid (kp_at hz2 h1'.out)
 have hz3:=Lib.hid hz2
 clear hW hz2 cp ci h1' hc' hcW
 refine wp_region_own (by kernel_rfl) (by kernel_rfl) ?_
 repeat (go_big_quiet_step (fail))
 refine wpQuiet_nil ?_
 rintro _ ⟨y1,rfl⟩
 go_upto_region 15 with (fail)
 refine wp_region_own (by kernel_rfl) (by kernel_rfl) ?_
 repeat (go_big_quiet_step (first|(with_reducible exact qh1.out _)))
 refine wpQuiet_nil ?_
 rintro _ ⟨y2,rfl⟩
 go_wp2_with (first|(go_at_call 88;with_reducible refine (qh1.out _).mono ?_;rintro r w' ⟨rfl,x,rfl⟩))
 go_ret
 exact⟨rfl,by rw [hz3.out,plus_plus];exact⟨_,rfl⟩⟩
set_option maxRecDepth 100000 in
set_option maxHeartbeats 8000000 in
theorem w_case_ (p0:Option Addr) (n0 c0:Nat) (p1:Option Addr) (n1 c1:Nat) (p3:Option Addr) (n3 c3:Nat) (p4:Option Addr) (n4 c4:Nat) (p5:Option Addr) (n5 c5:Nat) (p6:Option Addr) (n6 c6:Nat) (pa:Addr) (n nc:Nat) (xn:ByteArray) (tp:Option Addr) (tn tc:Nat) (xt:ByteArray) (kp:Option Addr) (kn kc:Nat) (pb:Addr) (m mc:Nat) (yd:Bool) (yp:Option Addr) (yn yc:Nat) (yt:ByteArray)  (skd:Int) (shd snm:ByteArray) (sop slw slh sll:Int) (sehd senm:ByteArray) (shi slo:Int) (sep:Option Addr) (sen sec:Nat) (stp:Option Addr) (stn stc:Nat) (sup:Option Addr) (sun suc:Nat) (v:Int) (w:World) (k:Nat) (hk:k < n) (hc:CellsAt w (pa.add (k*5)) [.string xn,.slice tp tn tc,.string xt,.slice kp kn kc,.slice (some pb) m mc]) (j:Nat) (hj:j < m) (hc2:CellsAt w (pb.add (j*3)) [.bool yd,.slice yp yn yc,.string yt])
  (h1:Kp Tryz.prog w 89 #[.agg #[.slice p0 n0 c0,.slice p1 n1 c1,.slice (some pa) n nc,.slice p3 n3 c3,.slice p4 n4 c4,.slice p5 n5 c5,.slice p6 n6 c6],.string yt] (.int .i64 v)) :
  Kp Tryz.prog w 31 #[.agg #[.slice p0 n0 c0,.slice p1 n1 c1,.slice (some pa) n nc,.slice p3 n3 c3,.slice p4 n4 c4,.slice p5 n5 c5,.slice p6 n6 c6],.agg #[.int .u8 7,.int .i64 (k:Int),.int .i64 (j:Int),.int .u8 skd,.string shd,.string snm,.int .u8 sop,.int .i64 slw,.int .u64 slh,.int .u64 sll,.string sehd,.string senm,.int .i64 shi,.int .i64 slo,.slice sep sen sec,.slice stp stn stc,.slice sup sun suc]] (.int .i64 v):=by
 intro y0
 have h1:=h1.up y0
 have hc:=hc.plus y0
 have hc2:=hc2.plus y0
 obtain⟨V,hV⟩:∃ V,plus w y0=V:=⟨_,rfl⟩
 rw [hV] at h1 hc hc2 ⊢
 clear hV
 have h1':=Lib.hid h1
 have hc':=Lib.hid hc
 have hc2':=Lib.hid hc2
 clear h1 hc hc2
 go_enter Tryz.func31,Tryz.ntmps31
 go_upto_region 1 with (fail)
 obtain⟨W,yy,hW,⟨z,hz2⟩,cp,ci⟩:=box2n V _ _ 30 49
 rw [hW]
 have cp0:=cp 0 _ rfl
 have cp1:=cp 1 _ rfl
 have cp2:=cp 2 _ rfl
 have cp3:=cp 3 _ rfl
 have cp4:=cp 4 _ rfl
 have cp5:=cp 5 _ rfl
 have cp6:=cp 6 _ rfl
 have ci0:=ci 0 _ rfl
 have ci1:=ci 1 _ rfl
 have ci2:=ci 2 _ rfl
 have ci3:=ci 3 _ rfl
 have ci4:=ci 4 _ rfl
 have ci5:=ci 5 _ rfl
 have ci6:=ci 6 _ rfl
 have ci7:=ci 7 _ rfl
 have ci8:=ci 8 _ rfl
 have ci9:=ci 9 _ rfl
 have ci10:=ci 10 _ rfl
 have ci11:=ci 11 _ rfl
 have ci12:=ci 12 _ rfl
 have ci13:=ci 13 _ rfl
 have ci14:=ci 14 _ rfl
 have ci15:=ci 15 _ rfl
 have ci16:=ci 16 _ rfl
 have hcW:=cells_up hz2 hc'.out
 have d0:=fun y=>(hcW.plus y).c0 _ rfl
 have d1:=fun y=>(hcW.plus y).cs 0 _ rfl
 have d2:=fun y=>(hcW.plus y).cs 1 _ rfl
 have d3:=fun y=>(hcW.plus y).cs 2 _ rfl
 have d4:=fun y=>(hcW.plus y).cs 3 _ rfl
 have hcX:=cells_up hz2 hc2'.out
 have e0:=fun y=>(hcX.plus y).c0 _ rfl
 have e1:=fun y=>(hcX.plus y).cs 0 _ rfl
 have e2:=fun y=>(hcX.plus y).cs 1 _ rfl
 have qh1:=Lib.hid (kp_at hz2 h1'.out)
 have hz3:=Lib.hid hz2
 clear hW hz2 cp ci h1' hc' hc2' hcW hcX
 refine wp_region_own (by kernel_rfl) (by kernel_rfl) ?_
 repeat (go_big_quiet_step (fail))
 refine wpQuiet_nil ?_
 rintro _ ⟨y1,rfl⟩
 go_upto_region 17 with (fail)
 refine wp_region_own (by kernel_rfl) (by kernel_rfl) ?_
 repeat (go_big_quiet_step (first|(with_reducible exact qh1.out _)))
 refine wpQuiet_nil ?_
 rintro _ ⟨y2,rfl⟩
 go_wp2_with (first|(go_at_call 89;with_reducible refine (qh1.out _).mono ?_;rintro r w' ⟨rfl,x,rfl⟩))
 go_ret
 exact⟨rfl,by rw [hz3.out,plus_plus];exact⟨_,rfl⟩⟩
set_option maxRecDepth 100000 in
set_option maxHeartbeats 8000000 in
theorem w_action (p0:Option Addr) (n0 c0:Nat) (p1:Option Addr) (n1 c1:Nat) (p2:Option Addr) (n2 c2:Nat) (p4:Option Addr) (n4 c4:Nat) (p5:Option Addr) (n5 c5:Nat) (p6:Option Addr) (n6 c6:Nat) (pa:Addr) (n nc:Nat) (xn:ByteArray) (ap:Option Addr) (an ac:Nat) (bp:Option Addr) (bn bc:Nat)  (skd:Int) (shd snm:ByteArray) (sop slw slh sll:Int) (sehd senm:ByteArray) (shi slo:Int) (sep:Option Addr) (sen sec:Nat) (stp:Option Addr) (stn stc:Nat) (sup:Option Addr) (sun suc:Nat) (I v:Int) (w:World) (k:Nat) (hk:k < n) (hc:CellsAt w (pa.add (k*3)) [.string xn,.slice ap an ac,.slice bp bn bc])
  (h1:Kp Tryz.prog w 90 #[.agg #[.slice p0 n0 c0,.slice p1 n1 c1,.slice p2 n2 c2,.slice (some pa) n nc,.slice p4 n4 c4,.slice p5 n5 c5,.slice p6 n6 c6],.string xn] (.int .i64 I))
  (h2:Kp Tryz.prog w 82 #[.int .i64 I,.int .i64 (k:Int)] (.int .i64 v)) :
  Kp Tryz.prog w 31 #[.agg #[.slice p0 n0 c0,.slice p1 n1 c1,.slice p2 n2 c2,.slice (some pa) n nc,.slice p4 n4 c4,.slice p5 n5 c5,.slice p6 n6 c6],.agg #[.int .u8 8,.int .i64 (k:Int),.int .i64 0,.int .u8 skd,.string shd,.string snm,.int .u8 sop,.int .i64 slw,.int .u64 slh,.int .u64 sll,.string sehd,.string senm,.int .i64 shi,.int .i64 slo,.slice sep sen sec,.slice stp stn stc,.slice sup sun suc]] (.int .i64 v):=by
 intro y0
 have h1:=h1.up y0
 have h2:=h2.up y0
 have hc:=hc.plus y0
 obtain⟨V,hV⟩:∃ V,plus w y0=V:=⟨_,rfl⟩
 rw [hV] at h1 h2 hc ⊢
 clear hV
 have h1':=Lib.hid h1
 have h2':=Lib.hid h2
 have hc':=Lib.hid hc
 clear h1 h2 hc
 go_enter Tryz.func31,Tryz.ntmps31
 go_upto_region 1 with (fail)
 obtain⟨W,yy,hW,⟨z,hz2⟩,cp,ci⟩:=box2n V _ _ 30 49
 rw [hW]
 have cp0:=cp 0 _ rfl
 have cp1:=cp 1 _ rfl
 have cp2:=cp 2 _ rfl
 have cp3:=cp 3 _ rfl
 have cp4:=cp 4 _ rfl
 have cp5:=cp 5 _ rfl
 have cp6:=cp 6 _ rfl
 have ci0:=ci 0 _ rfl
 have ci1:=ci 1 _ rfl
 have ci2:=ci 2 _ rfl
 have ci3:=ci 3 _ rfl
 have ci4:=ci 4 _ rfl
 have ci5:=ci 5 _ rfl
 have ci6:=ci 6 _ rfl
 have ci7:=ci 7 _ rfl
 have ci8:=ci 8 _ rfl
 have ci9:=ci 9 _ rfl
 have ci10:=ci 10 _ rfl
 have ci11:=ci 11 _ rfl
 have ci12:=ci 12 _ rfl
 have ci13:=ci 13 _ rfl
 have ci14:=ci 14 _ rfl
 have ci15:=ci 15 _ rfl
 have ci16:=ci 16 _ rfl
 have hcW:=cells_up hz2 hc'.out
 have d0:=fun y=>(hcW.plus y).c0 _ rfl
 have d1:=fun y=>(hcW.plus y).cs 0 _ rfl
 have d2:=fun y=>(hcW.plus y).cs 1 _ rfl
 have qh1:=Lib.hid (kp_at hz2 h1'.out)
 have qh2:=Lib.hid (kp_at hz2 h2'.out)
 have hz3:=Lib.hid hz2
 clear hW hz2 cp ci h1' h2' hc' hcW
 refine wp_region_own (by kernel_rfl) (by kernel_rfl) ?_
 repeat (go_big_quiet_step (fail))
 refine wpQuiet_nil ?_
 rintro _ ⟨y1,rfl⟩
 go_upto_region 19 with (fail)
 refine wp_region_own (by kernel_rfl) (by kernel_rfl) ?_
 repeat (go_big_quiet_step (first|(with_reducible exact qh1.out _)|(with_reducible exact qh2.out _)))
 refine wpQuiet_nil ?_
 rintro _ ⟨y2,rfl⟩
 go_wp2_with (first|(go_at_call 90;with_reducible refine (qh1.out _).mono ?_;rintro r w' ⟨rfl,x,rfl⟩)|(go_at_call 82;with_reducible refine (qh2.out _).mono ?_;rintro r w' ⟨rfl,x,rfl⟩))
 go_ret
 exact⟨rfl,by rw [hz3.out,plus_plus];exact⟨_,rfl⟩⟩
set_option maxRecDepth 100000 in
set_option maxHeartbeats 8000000 in
theorem w_param (p0:Option Addr) (n0 c0:Nat) (p1:Option Addr) (n1 c1:Nat) (p2:Option Addr) (n2 c2:Nat) (p4:Option Addr) (n4 c4:Nat) (p5:Option Addr) (n5 c5:Nat) (p6:Option Addr) (n6 c6:Nat) (pa:Addr) (n nc:Nat) (xn:ByteArray) (pb:Addr) (m mc:Nat) (bp:Option Addr) (bn bc:Nat) (yn:ByteArray) (yw:Int)  (skd:Int) (shd snm:ByteArray) (sop slw slh sll:Int) (sehd senm:ByteArray) (shi slo:Int) (sep:Option Addr) (sen sec:Nat) (stp:Option Addr) (stn stc:Nat) (sup:Option Addr) (sun suc:Nat) (I v:Int) (w:World) (k:Nat) (hk:k < n) (hc:CellsAt w (pa.add (k*3)) [.string xn,.slice (some pb) m mc,.slice bp bn bc]) (j:Nat) (hj:j < m) (hc2:CellsAt w (pb.add (j*2)) [.string yn,.int .i64 yw])
  (h1:Kp Tryz.prog w 91 #[.agg #[.slice p0 n0 c0,.slice p1 n1 c1,.slice p2 n2 c2,.slice (some pa) n nc,.slice p4 n4 c4,.slice p5 n5 c5,.slice p6 n6 c6],.int .i64 (k:Int),.string yn] (.int .i64 I))
  (h2:Kp Tryz.prog w 82 #[.int .i64 I,.int .i64 (j:Int)] (.int .i64 v)) :
  Kp Tryz.prog w 31 #[.agg #[.slice p0 n0 c0,.slice p1 n1 c1,.slice p2 n2 c2,.slice (some pa) n nc,.slice p4 n4 c4,.slice p5 n5 c5,.slice p6 n6 c6],.agg #[.int .u8 9,.int .i64 (k:Int),.int .i64 (j:Int),.int .u8 skd,.string shd,.string snm,.int .u8 sop,.int .i64 slw,.int .u64 slh,.int .u64 sll,.string sehd,.string senm,.int .i64 shi,.int .i64 slo,.slice sep sen sec,.slice stp stn stc,.slice sup sun suc]] (.int .i64 v):=by
 intro y0
 have h1:=h1.up y0
 have h2:=h2.up y0
 have hc:=hc.plus y0
 have hc2:=hc2.plus y0
 obtain⟨V,hV⟩:∃ V,plus w y0=V:=⟨_,rfl⟩
 rw [hV] at h1 h2 hc hc2 ⊢
 clear hV
 have h1':=Lib.hid h1
 have h2':=Lib.hid h2
 have hc':=Lib.hid hc
 have hc2':=Lib.hid hc2
 clear h1 h2 hc hc2
 go_enter Tryz.func31,Tryz.ntmps31
 go_upto_region 1 with (fail)
 obtain⟨W,yy,hW,⟨z,hz2⟩,cp,ci⟩:=box2n V _ _ 30 49
 rw [hW]
 have cp0:=cp 0 _ rfl
 have cp1:=cp 1 _ rfl
 have cp2:=cp 2 _ rfl
 have cp3:=cp 3 _ rfl
 have cp4:=cp 4 _ rfl
 have cp5:=cp 5 _ rfl
 have cp6:=cp 6 _ rfl
 have ci0:=ci 0 _ rfl
 have ci1:=ci 1 _ rfl
 have ci2:=ci 2 _ rfl
 have ci3:=ci 3 _ rfl
 have ci4:=ci 4 _ rfl
 have ci5:=ci 5 _ rfl
 have ci6:=ci 6 _ rfl
 have ci7:=ci 7 _ rfl
 have ci8:=ci 8 _ rfl
 have ci9:=ci 9 _ rfl
 have ci10:=ci 10 _ rfl
 have ci11:=ci 11 _ rfl
 have ci12:=ci 12 _ rfl
 have ci13:=ci 13 _ rfl
 have ci14:=ci 14 _ rfl
 have ci15:=ci 15 _ rfl
 have ci16:=ci 16 _ rfl
 have hcW:=cells_up hz2 hc'.out
 have d0:=fun y=>(hcW.plus y).c0 _ rfl
 have d1:=fun y=>(hcW.plus y).cs 0 _ rfl
 have d2:=fun y=>(hcW.plus y).cs 1 _ rfl
 have hcX:=cells_up hz2 hc2'.out
 have e0:=fun y=>(hcX.plus y).c0 _ rfl
 have e1:=fun y=>(hcX.plus y).cs 0 _ rfl
 have qh1:=Lib.hid (kp_at hz2 h1'.out)
 have qh2:=Lib.hid (kp_at hz2 h2'.out)
 have hz3:=Lib.hid hz2
 clear hW hz2 cp ci h1' h2' hc' hc2' hcW hcX
 refine wp_region_own (by kernel_rfl) (by kernel_rfl) ?_
 repeat (go_big_quiet_step (fail))
 refine wpQuiet_nil ?_
 rintro _ ⟨y1,rfl⟩
 go_upto_region 21 with (fail)
 refine wp_region_own (by kernel_rfl) (by kernel_rfl) ?_
 repeat (go_big_quiet_step (first|(with_reducible exact qh1.out _)|(with_reducible exact qh2.out _)))
 refine wpQuiet_nil ?_
 rintro _ ⟨y2,rfl⟩
 go_wp2_with (first|(go_at_call 91;with_reducible refine (qh1.out _).mono ?_;rintro r w' ⟨rfl,x,rfl⟩)|(go_at_call 82;with_reducible refine (qh2.out _).mono ?_;rintro r w' ⟨rfl,x,rfl⟩))
 go_ret
 exact⟨rfl,by rw [hz3.out,plus_plus];exact⟨_,rfl⟩⟩
set_option maxRecDepth 100000 in
set_option maxHeartbeats 8000000 in
theorem w_stmt (p0:Option Addr) (n0 c0:Nat) (p1:Option Addr) (n1 c1:Nat) (p2:Option Addr) (n2 c2:Nat) (p3:Option Addr) (n3 c3:Nat) (p4:Option Addr) (n4 c4:Nat) (p5:Option Addr) (n5 c5:Nat) (p6:Option Addr) (n6 c6:Nat)  (ka:Int) (skd:Int) (shd snm:ByteArray) (sop slw slh sll:Int) (sehd senm:ByteArray) (shi slo:Int) (sep:Option Addr) (sen sec:Nat) (stp:Option Addr) (stn stc:Nat) (sup:Option Addr) (sun suc:Nat) (v:Int) (w:World) 
  (h1:Kp Tryz.prog w 92 #[.agg #[.slice p0 n0 c0,.slice p1 n1 c1,.slice p2 n2 c2,.slice p3 n3 c3,.slice p4 n4 c4,.slice p5 n5 c5,.slice p6 n6 c6],.int .i64 ka,.agg #[.int .u8 skd,.string shd,.string snm,.int .u8 sop,.int .i64 slw,.int .u64 slh,.int .u64 sll,.string sehd,.string senm,.int .i64 shi,.int .i64 slo,.slice sep sen sec,.slice stp stn stc,.slice sup sun suc]] (.int .i64 v)) :
  Kp Tryz.prog w 31 #[.agg #[.slice p0 n0 c0,.slice p1 n1 c1,.slice p2 n2 c2,.slice p3 n3 c3,.slice p4 n4 c4,.slice p5 n5 c5,.slice p6 n6 c6],.agg #[.int .u8 10,.int .i64 ka,.int .i64 0,.int .u8 skd,.string shd,.string snm,.int .u8 sop,.int .i64 slw,.int .u64 slh,.int .u64 sll,.string sehd,.string senm,.int .i64 shi,.int .i64 slo,.slice sep sen sec,.slice stp stn stc,.slice sup sun suc]] (.int .i64 v):=by
 intro y0
 have h1:=h1.up y0
 obtain⟨V,hV⟩:∃ V,plus w y0=V:=⟨_,rfl⟩
 rw [hV] at h1 ⊢
 clear hV
 have h1':=Lib.hid h1
 clear h1
 go_enter Tryz.func31,Tryz.ntmps31
 go_upto_region 1 with (fail)
 obtain⟨W,yy,hW,⟨z,hz2⟩,cp,ci⟩:=box2n V _ _ 30 49
 rw [hW]
 have cp0:=cp 0 _ rfl
 have cp1:=cp 1 _ rfl
 have cp2:=cp 2 _ rfl
 have cp3:=cp 3 _ rfl
 have cp4:=cp 4 _ rfl
 have cp5:=cp 5 _ rfl
 have cp6:=cp 6 _ rfl
 have ci0:=ci 0 _ rfl
 have ci1:=ci 1 _ rfl
 have ci2:=ci 2 _ rfl
 have ci3:=ci 3 _ rfl
 have ci4:=ci 4 _ rfl
 have ci5:=ci 5 _ rfl
 have ci6:=ci 6 _ rfl
 have ci7:=ci 7 _ rfl
 have ci8:=ci 8 _ rfl
 have ci9:=ci 9 _ rfl
 have ci10:=ci 10 _ rfl
 have ci11:=ci 11 _ rfl
 have ci12:=ci 12 _ rfl
 have ci13:=ci 13 _ rfl
 have ci14:=ci 14 _ rfl
 have ci15:=ci 15 _ rfl
 have ci16:=ci 16 _ rfl
 have qh1:=Lib.hid (kp_at hz2 h1'.out)
 have hz3:=Lib.hid hz2
 clear hW hz2 cp ci h1'
 refine wp_region_own (by kernel_rfl) (by kernel_rfl) ?_
 repeat (go_big_quiet_step (fail))
 refine wpQuiet_nil ?_
 rintro _ ⟨y1,rfl⟩
 go_wp2_with (first|(go_at_call 92;with_reducible refine (qh1.out _).mono ?_;rintro r w' ⟨rfl,x,rfl⟩))
 go_ret
 exact⟨rfl,by rw [hz3.out,plus_plus];exact⟨_,rfl⟩⟩
set_option maxRecDepth 100000 in
set_option maxHeartbeats 8000000 in
theorem w_table (p0:Option Addr) (n0 c0:Nat) (p1:Option Addr) (n1 c1:Nat) (p2:Option Addr) (n2 c2:Nat) (p3:Option Addr) (n3 c3:Nat) (p5:Option Addr) (n5 c5:Nat) (p6:Option Addr) (n6 c6:Nat) (pa:Addr) (n nc:Nat) (xn:ByteArray) (kp:Option Addr) (kn kc:Nat) (lp:Option Addr) (ln lc:Nat) (dn:ByteArray) (gp:Option Addr) (gn gc:Nat)  (skd:Int) (shd snm:ByteArray) (sop slw slh sll:Int) (sehd senm:ByteArray) (shi slo:Int) (sep:Option Addr) (sen sec:Nat) (stp:Option Addr) (stn stc:Nat) (sup:Option Addr) (sun suc:Nat) (I v:Int) (w:World) (k:Nat) (hk:k < n) (hc:CellsAt w (pa.add (k*5)) [.string xn,.slice kp kn kc,.slice lp ln lc,.string dn,.slice gp gn gc])
  (h1:Kp Tryz.prog w 93 #[.agg #[.slice p0 n0 c0,.slice p1 n1 c1,.slice p2 n2 c2,.slice p3 n3 c3,.slice (some pa) n nc,.slice p5 n5 c5,.slice p6 n6 c6],.string xn] (.int .i64 I))
  (h2:Kp Tryz.prog w 82 #[.int .i64 I,.int .i64 (k:Int)] (.int .i64 v)) :
  Kp Tryz.prog w 31 #[.agg #[.slice p0 n0 c0,.slice p1 n1 c1,.slice p2 n2 c2,.slice p3 n3 c3,.slice (some pa) n nc,.slice p5 n5 c5,.slice p6 n6 c6],.agg #[.int .u8 11,.int .i64 (k:Int),.int .i64 0,.int .u8 skd,.string shd,.string snm,.int .u8 sop,.int .i64 slw,.int .u64 slh,.int .u64 sll,.string sehd,.string senm,.int .i64 shi,.int .i64 slo,.slice sep sen sec,.slice stp stn stc,.slice sup sun suc]] (.int .i64 v):=by
 intro y0
 have h1:=h1.up y0
 have h2:=h2.up y0
 have hc:=hc.plus y0
 obtain⟨V,hV⟩:∃ V,plus w y0=V:=⟨_,rfl⟩
 rw [hV] at h1 h2 hc ⊢
 clear hV
 have h1':=Lib.hid h1
 have h2':=Lib.hid h2
 have hc':=Lib.hid hc
 clear h1 h2 hc
 go_enter Tryz.func31,Tryz.ntmps31
 go_upto_region 1 with (fail)
 obtain⟨W,yy,hW,⟨z,hz2⟩,cp,ci⟩:=box2n V _ _ 30 49
 rw [hW]
 have cp0:=cp 0 _ rfl
 have cp1:=cp 1 _ rfl
 have cp2:=cp 2 _ rfl
 have cp3:=cp 3 _ rfl
 have cp4:=cp 4 _ rfl
 have cp5:=cp 5 _ rfl
 have cp6:=cp 6 _ rfl
 have ci0:=ci 0 _ rfl
 have ci1:=ci 1 _ rfl
 have ci2:=ci 2 _ rfl
 have ci3:=ci 3 _ rfl
 have ci4:=ci 4 _ rfl
 have ci5:=ci 5 _ rfl
 have ci6:=ci 6 _ rfl
 have ci7:=ci 7 _ rfl
 have ci8:=ci 8 _ rfl
 have ci9:=ci 9 _ rfl
 have ci10:=ci 10 _ rfl
 have ci11:=ci 11 _ rfl
 have ci12:=ci 12 _ rfl
 have ci13:=ci 13 _ rfl
 have ci14:=ci 14 _ rfl
 have ci15:=ci 15 _ rfl
 have ci16:=ci 16 _ rfl
 have hcW:=cells_up hz2 hc'.out
 have d0:=fun y=>(hcW.plus y).c0 _ rfl
 have d1:=fun y=>(hcW.plus y).cs 0 _ rfl
 have d2:=fun y=>(hcW.plus y).cs 1 _ rfl
 have d3:=fun y=>(hcW.plus y).cs 2 _ rfl
 have d4:=fun y=>(hcW.plus y).cs 3 _ rfl
 have qh1:=Lib.hid (kp_at hz2 h1'.out)
 have qh2:=Lib.hid (kp_at hz2 h2'.out)
 have hz3:=Lib.hid hz2
 clear hW hz2 cp ci h1' h2' hc' hcW
 refine wp_region_own (by kernel_rfl) (by kernel_rfl) ?_
 repeat (go_big_quiet_step (fail))
 refine wpQuiet_nil ?_
 rintro _ ⟨y1,rfl⟩
 go_upto_region 25 with (fail)
 refine wp_region_own (by kernel_rfl) (by kernel_rfl) ?_
 repeat (go_big_quiet_step (first|(with_reducible exact qh1.out _)|(with_reducible exact qh2.out _)))
 refine wpQuiet_nil ?_
 rintro _ ⟨y2,rfl⟩
 go_wp2_with (first|(go_at_call 93;with_reducible refine (qh1.out _).mono ?_;rintro r w' ⟨rfl,x,rfl⟩)|(go_at_call 82;with_reducible refine (qh2.out _).mono ?_;rintro r w' ⟨rfl,x,rfl⟩))
 go_ret
 exact⟨rfl,by rw [hz3.out,plus_plus];exact⟨_,rfl⟩⟩
set_option maxRecDepth 100000 in
set_option maxHeartbeats 8000000 in
theorem w_key (p0:Option Addr) (n0 c0:Nat) (p1:Option Addr) (n1 c1:Nat) (p2:Option Addr) (n2 c2:Nat) (p3:Option Addr) (n3 c3:Nat) (p5:Option Addr) (n5 c5:Nat) (p6:Option Addr) (n6 c6:Nat) (pa:Addr) (n nc:Nat) (xn:ByteArray) (pb:Addr) (m mc:Nat) (lp:Option Addr) (ln lc:Nat) (dn:ByteArray) (gp:Option Addr) (gn gc:Nat) (eop elw elh ell:Int) (ehd enm:ByteArray) (ehi elo:Int) (ep:Option Addr) (en ec:Nat) (kd:Int)  (skd:Int) (shd snm:ByteArray) (sop slw slh sll:Int) (sehd senm:ByteArray) (shi slo:Int) (sep:Option Addr) (sen sec:Nat) (stp:Option Addr) (stn stc:Nat) (sup:Option Addr) (sun suc:Nat) (v:Int) (w:World) (k:Nat) (hk:k < n) (hc:CellsAt w (pa.add (k*5)) [.string xn,.slice (some pb) m mc,.slice lp ln lc,.string dn,.slice gp gn gc]) (j:Nat) (hj:j < m) (hc2:CellsAt w (pb.add (j*10)) [.int .u8 eop,.int .i64 elw,.int .u64 elh,.int .u64 ell,.string ehd,.string enm,.int .i64 ehi,.int .i64 elo,.slice ep en ec,.int .u8 kd])
  (h1:Kp Tryz.prog w 94 #[.agg #[.slice p0 n0 c0,.slice p1 n1 c1,.slice p2 n2 c2,.slice p3 n3 c3,.slice (some pa) n nc,.slice p5 n5 c5,.slice p6 n6 c6],.int .i64 (-1),.agg #[.int .u8 eop,.int .i64 elw,.int .u64 elh,.int .u64 ell,.string ehd,.string enm,.int .i64 ehi,.int .i64 elo,.slice ep en ec]] (.int .i64 v)) :
  Kp Tryz.prog w 31 #[.agg #[.slice p0 n0 c0,.slice p1 n1 c1,.slice p2 n2 c2,.slice p3 n3 c3,.slice (some pa) n nc,.slice p5 n5 c5,.slice p6 n6 c6],.agg #[.int .u8 12,.int .i64 (k:Int),.int .i64 (j:Int),.int .u8 skd,.string shd,.string snm,.int .u8 sop,.int .i64 slw,.int .u64 slh,.int .u64 sll,.string sehd,.string senm,.int .i64 shi,.int .i64 slo,.slice sep sen sec,.slice stp stn stc,.slice sup sun suc]] (.int .i64 v):=by
 intro y0
 have h1:=h1.up y0
 have hc:=hc.plus y0
 have hc2:=hc2.plus y0
 obtain⟨V,hV⟩:∃ V,plus w y0=V:=⟨_,rfl⟩
 rw [hV] at h1 hc hc2 ⊢
 clear hV
 have h1':=Lib.hid h1
 have hc':=Lib.hid hc
 have hc2':=Lib.hid hc2
 clear h1 hc hc2
 go_enter Tryz.func31,Tryz.ntmps31
 go_upto_region 1 with (fail)
 obtain⟨W,yy,hW,⟨z,hz2⟩,cp,ci⟩:=box2n V _ _ 30 49
 rw [hW]
 have cp0:=cp 0 _ rfl
 have cp1:=cp 1 _ rfl
 have cp2:=cp 2 _ rfl
 have cp3:=cp 3 _ rfl
 have cp4:=cp 4 _ rfl
 have cp5:=cp 5 _ rfl
 have cp6:=cp 6 _ rfl
 have ci0:=ci 0 _ rfl
 have ci1:=ci 1 _ rfl
 have ci2:=ci 2 _ rfl
 have ci3:=ci 3 _ rfl
 have ci4:=ci 4 _ rfl
 have ci5:=ci 5 _ rfl
 have ci6:=ci 6 _ rfl
 have ci7:=ci 7 _ rfl
 have ci8:=ci 8 _ rfl
 have ci9:=ci 9 _ rfl
 have ci10:=ci 10 _ rfl
 have ci11:=ci 11 _ rfl
 have ci12:=ci 12 _ rfl
 have ci13:=ci 13 _ rfl
 have ci14:=ci 14 _ rfl
 have ci15:=ci 15 _ rfl
 have ci16:=ci 16 _ rfl
 have hcW:=cells_up hz2 hc'.out
 have d0:=fun y=>(hcW.plus y).c0 _ rfl
 have d1:=fun y=>(hcW.plus y).cs 0 _ rfl
 have d2:=fun y=>(hcW.plus y).cs 1 _ rfl
 have d3:=fun y=>(hcW.plus y).cs 2 _ rfl
 have d4:=fun y=>(hcW.plus y).cs 3 _ rfl
 have hcX:=cells_up hz2 hc2'.out
 have e0:=fun y=>(hcX.plus y).c0 _ rfl
 have e1:=fun y=>(hcX.plus y).cs 0 _ rfl
 have e2:=fun y=>(hcX.plus y).cs 1 _ rfl
 have e3:=fun y=>(hcX.plus y).cs 2 _ rfl
 have e4:=fun y=>(hcX.plus y).cs 3 _ rfl
 have e5:=fun y=>(hcX.plus y).cs 4 _ rfl
 have e6:=fun y=>(hcX.plus y).cs 5 _ rfl
 have e7:=fun y=>(hcX.plus y).cs 6 _ rfl
 have e8:=fun y=>(hcX.plus y).cs 7 _ rfl
 have e9:=fun y=>(hcX.plus y).cs 8 _ rfl
 have qh1:=Lib.hid (kp_at hz2 h1'.out)
 have hz3:=Lib.hid hz2
 clear hW hz2 cp ci h1' hc' hc2' hcW hcX
 refine wp_region_own (by kernel_rfl) (by kernel_rfl) ?_
 repeat (go_big_quiet_step (fail))
 refine wpQuiet_nil ?_
 rintro _ ⟨y1,rfl⟩
 go_upto_region 27 with (fail)
 refine wp_region_own (by kernel_rfl) (by kernel_rfl) ?_
 repeat (go_big_quiet_step (first|(with_reducible exact qh1.out _)))
 refine wpQuiet_nil ?_
 rintro _ ⟨y2,rfl⟩
 go_wp2_with (first|(go_at_call 94;with_reducible refine (qh1.out _).mono ?_;rintro r w' ⟨rfl,x,rfl⟩))
 go_ret
 exact⟨rfl,by rw [hz3.out,plus_plus];exact⟨_,rfl⟩⟩
set_option maxRecDepth 100000 in
set_option maxHeartbeats 8000000 in
theorem w_listed (p0:Option Addr) (n0 c0:Nat) (p1:Option Addr) (n1 c1:Nat) (p2:Option Addr) (n2 c2:Nat) (p3:Option Addr) (n3 c3:Nat) (p5:Option Addr) (n5 c5:Nat) (p6:Option Addr) (n6 c6:Nat) (pa:Addr) (n nc:Nat) (xn:ByteArray) (kp:Option Addr) (kn kc:Nat) (pb:Addr) (m mc:Nat) (dn:ByteArray) (gp:Option Addr) (gn gc:Nat) (xs:ByteArray)  (skd:Int) (shd snm:ByteArray) (sop slw slh sll:Int) (sehd senm:ByteArray) (shi slo:Int) (sep:Option Addr) (sen sec:Nat) (stp:Option Addr) (stn stc:Nat) (sup:Option Addr) (sun suc:Nat) (I v:Int) (w:World) (k:Nat) (hk:k < n) (hc:CellsAt w (pa.add (k*5)) [.string xn,.slice kp kn kc,.slice (some pb) m mc,.string dn,.slice gp gn gc]) (j:Nat) (hj:j < m) (hc2:CellsAt w (pb.add (j*1)) [.string xs])
  (h1:Kp Tryz.prog w 90 #[.agg #[.slice p0 n0 c0,.slice p1 n1 c1,.slice p2 n2 c2,.slice p3 n3 c3,.slice (some pa) n nc,.slice p5 n5 c5,.slice p6 n6 c6],.string xs] (.int .i64 I))
  (h2:Kp Tryz.prog w 95 #[.int .i64 I,.slice (some pb) m mc,.int .i64 (j:Int)] (.int .i64 v)) :
  Kp Tryz.prog w 31 #[.agg #[.slice p0 n0 c0,.slice p1 n1 c1,.slice p2 n2 c2,.slice p3 n3 c3,.slice (some pa) n nc,.slice p5 n5 c5,.slice p6 n6 c6],.agg #[.int .u8 13,.int .i64 (k:Int),.int .i64 (j:Int),.int .u8 skd,.string shd,.string snm,.int .u8 sop,.int .i64 slw,.int .u64 slh,.int .u64 sll,.string sehd,.string senm,.int .i64 shi,.int .i64 slo,.slice sep sen sec,.slice stp stn stc,.slice sup sun suc]] (.int .i64 v):=by
 intro y0
 have h1:=h1.up y0
 have h2:=h2.up y0
 have hc:=hc.plus y0
 have hc2:=hc2.plus y0
 obtain⟨V,hV⟩:∃ V,plus w y0=V:=⟨_,rfl⟩
 rw [hV] at h1 h2 hc hc2 ⊢
 clear hV
 have h1':=Lib.hid h1
 have h2':=Lib.hid h2
 have hc':=Lib.hid hc
 have hc2':=Lib.hid hc2
 clear h1 h2 hc hc2
 go_enter Tryz.func31,Tryz.ntmps31
 go_upto_region 1 with (fail)
 obtain⟨W,yy,hW,⟨z,hz2⟩,cp,ci⟩:=box2n V _ _ 30 49
 rw [hW]
 have cp0:=cp 0 _ rfl
 have cp1:=cp 1 _ rfl
 have cp2:=cp 2 _ rfl
 have cp3:=cp 3 _ rfl
 have cp4:=cp 4 _ rfl
 have cp5:=cp 5 _ rfl
 have cp6:=cp 6 _ rfl
 have ci0:=ci 0 _ rfl
 have ci1:=ci 1 _ rfl
 have ci2:=ci 2 _ rfl
 have ci3:=ci 3 _ rfl
 have ci4:=ci 4 _ rfl
 have ci5:=ci 5 _ rfl
 have ci6:=ci 6 _ rfl
 have ci7:=ci 7 _ rfl
 have ci8:=ci 8 _ rfl
 have ci9:=ci 9 _ rfl
 have ci10:=ci 10 _ rfl
 have ci11:=ci 11 _ rfl
 have ci12:=ci 12 _ rfl
 have ci13:=ci 13 _ rfl
 have ci14:=ci 14 _ rfl
 have ci15:=ci 15 _ rfl
 have ci16:=ci 16 _ rfl
 have hcW:=cells_up hz2 hc'.out
 have d0:=fun y=>(hcW.plus y).c0 _ rfl
 have d1:=fun y=>(hcW.plus y).cs 0 _ rfl
 have d2:=fun y=>(hcW.plus y).cs 1 _ rfl
 have d3:=fun y=>(hcW.plus y).cs 2 _ rfl
 have d4:=fun y=>(hcW.plus y).cs 3 _ rfl
 have hcX:=cells_up hz2 hc2'.out
 have e0:=fun y=>(hcX.plus y).c0 _ rfl
 simp only [Nat.mul_one] at e0
 have qh1:=Lib.hid (kp_at hz2 h1'.out)
 have qh2:=Lib.hid (kp_at hz2 h2'.out)
 have hz3:=Lib.hid hz2
 clear hW hz2 cp ci h1' h2' hc' hc2' hcW hcX
 refine wp_region_own (by kernel_rfl) (by kernel_rfl) ?_
 repeat (go_big_quiet_step (fail))
 refine wpQuiet_nil ?_
 rintro _ ⟨y1,rfl⟩
 go_upto_region 29 with (fail)
 refine wp_region_own (by kernel_rfl) (by kernel_rfl) ?_
 repeat (go_big_quiet_step (first|(with_reducible exact qh1.out _)|(with_reducible exact qh2.out _)))
 refine wpQuiet_nil ?_
 rintro _ ⟨y2,rfl⟩
 go_wp2_with (first|(go_at_call 90;with_reducible refine (qh1.out _).mono ?_;rintro r w' ⟨rfl,x,rfl⟩)|(go_at_call 95;with_reducible refine (qh2.out _).mono ?_;rintro r w' ⟨rfl,x,rfl⟩))
 go_ret
 exact⟨rfl,by rw [hz3.out,plus_plus];exact⟨_,rfl⟩⟩
set_option maxRecDepth 100000 in
set_option maxHeartbeats 8000000 in
theorem w_dflt (p0:Option Addr) (n0 c0:Nat) (p1:Option Addr) (n1 c1:Nat) (p2:Option Addr) (n2 c2:Nat) (p3:Option Addr) (n3 c3:Nat) (p5:Option Addr) (n5 c5:Nat) (p6:Option Addr) (n6 c6:Nat) (pa:Addr) (n nc:Nat) (xn:ByteArray) (kp:Option Addr) (kn kc:Nat) (lp:Option Addr) (ln lc:Nat) (dn:ByteArray) (gp:Option Addr) (gn gc:Nat)  (skd:Int) (shd snm:ByteArray) (sop slw slh sll:Int) (sehd senm:ByteArray) (shi slo:Int) (sep:Option Addr) (sen sec:Nat) (stp:Option Addr) (stn stc:Nat) (sup:Option Addr) (sun suc:Nat) (v:Int) (w:World) (k:Nat) (hk:k < n) (hc:CellsAt w (pa.add (k*5)) [.string xn,.slice kp kn kc,.slice lp ln lc,.string dn,.slice gp gn gc])
  (h1:Kp Tryz.prog w 96 #[.agg #[.slice p0 n0 c0,.slice p1 n1 c1,.slice p2 n2 c2,.slice p3 n3 c3,.slice (some pa) n nc,.slice p5 n5 c5,.slice p6 n6 c6],.agg #[.string xn,.slice kp kn kc,.slice lp ln lc,.string dn,.slice gp gn gc]] (.int .i64 v)) :
  Kp Tryz.prog w 31 #[.agg #[.slice p0 n0 c0,.slice p1 n1 c1,.slice p2 n2 c2,.slice p3 n3 c3,.slice (some pa) n nc,.slice p5 n5 c5,.slice p6 n6 c6],.agg #[.int .u8 14,.int .i64 (k:Int),.int .i64 0,.int .u8 skd,.string shd,.string snm,.int .u8 sop,.int .i64 slw,.int .u64 slh,.int .u64 sll,.string sehd,.string senm,.int .i64 shi,.int .i64 slo,.slice sep sen sec,.slice stp stn stc,.slice sup sun suc]] (.int .i64 v):=by
 intro y0
 have h1:=h1.up y0
 have hc:=hc.plus y0
 obtain⟨V,hV⟩:∃ V,plus w y0=V:=⟨_,rfl⟩
 rw [hV] at h1 hc ⊢
 clear hV
 have h1':=Lib.hid h1
 have hc':=Lib.hid hc
 clear h1 hc
 go_enter Tryz.func31,Tryz.ntmps31
 go_upto_region 1 with (fail)
 obtain⟨W,yy,hW,⟨z,hz2⟩,cp,ci⟩:=box2n V _ _ 30 49
 rw [hW]
 have cp0:=cp 0 _ rfl
 have cp1:=cp 1 _ rfl
 have cp2:=cp 2 _ rfl
 have cp3:=cp 3 _ rfl
 have cp4:=cp 4 _ rfl
 have cp5:=cp 5 _ rfl
 have cp6:=cp 6 _ rfl
 have ci0:=ci 0 _ rfl
 have ci1:=ci 1 _ rfl
 have ci2:=ci 2 _ rfl
 have ci3:=ci 3 _ rfl
 have ci4:=ci 4 _ rfl
 have ci5:=ci 5 _ rfl
 have ci6:=ci 6 _ rfl
 have ci7:=ci 7 _ rfl
 have ci8:=ci 8 _ rfl
 have ci9:=ci 9 _ rfl
 have ci10:=ci 10 _ rfl
 have ci11:=ci 11 _ rfl
 have ci12:=ci 12 _ rfl
 have ci13:=ci 13 _ rfl
 have ci14:=ci 14 _ rfl
 have ci15:=ci 15 _ rfl
 have ci16:=ci 16 _ rfl
 have hcW:=cells_up hz2 hc'.out
 have d0:=fun y=>(hcW.plus y).c0 _ rfl
 have d1:=fun y=>(hcW.plus y).cs 0 _ rfl
 have d2:=fun y=>(hcW.plus y).cs 1 _ rfl
 have d3:=fun y=>(hcW.plus y).cs 2 _ rfl
 have d4:=fun y=>(hcW.plus y).cs 3 _ rfl
 have qh1:=Lib.hid (kp_at hz2 h1'.out)
 have hz3:=Lib.hid hz2
 clear hW hz2 cp ci h1' hc' hcW
 refine wp_region_own (by kernel_rfl) (by kernel_rfl) ?_
 repeat (go_big_quiet_step (fail))
 refine wpQuiet_nil ?_
 rintro _ ⟨y1,rfl⟩
 go_upto_region 31 with (fail)
 refine wp_region_own (by kernel_rfl) (by kernel_rfl) ?_
 repeat (go_big_quiet_step (first|(with_reducible exact qh1.out _)))
 refine wpQuiet_nil ?_
 rintro _ ⟨y2,rfl⟩
 go_wp2_with (first|(go_at_call 96;with_reducible refine (qh1.out _).mono ?_;rintro r w' ⟨rfl,x,rfl⟩))
 go_ret
 exact⟨rfl,by rw [hz3.out,plus_plus];exact⟨_,rfl⟩⟩
set_option maxRecDepth 100000 in
set_option maxHeartbeats 8000000 in
theorem w_emit (p0:Option Addr) (n0 c0:Nat) (p1:Option Addr) (n1 c1:Nat) (p2:Option Addr) (n2 c2:Nat) (p3:Option Addr) (n3 c3:Nat) (p4:Option Addr) (n4 c4:Nat) (p5:Option Addr) (n5 c5:Nat) (pa:Addr) (n nc:Nat) (xs:ByteArray)  (skd:Int) (shd snm:ByteArray) (sop slw slh sll:Int) (sehd senm:ByteArray) (shi slo:Int) (sep:Option Addr) (sen sec:Nat) (stp:Option Addr) (stn stc:Nat) (sup:Option Addr) (sun suc:Nat) (I v:Int) (w:World) (k:Nat) (hk:k < n) (hc:CellsAt w (pa.add (k*1)) [.string xs])
  (h1:Kp Tryz.prog w 87 #[.agg #[.slice p0 n0 c0,.slice p1 n1 c1,.slice p2 n2 c2,.slice p3 n3 c3,.slice p4 n4 c4,.slice p5 n5 c5,.slice (some pa) n nc],.string xs] (.int .i64 I))
  (h2:Kp Tryz.prog w 95 #[.int .i64 I,.slice (some pa) n nc,.int .i64 (k:Int)] (.int .i64 v)) :
  Kp Tryz.prog w 31 #[.agg #[.slice p0 n0 c0,.slice p1 n1 c1,.slice p2 n2 c2,.slice p3 n3 c3,.slice p4 n4 c4,.slice p5 n5 c5,.slice (some pa) n nc],.agg #[.int .u8 15,.int .i64 (k:Int),.int .i64 0,.int .u8 skd,.string shd,.string snm,.int .u8 sop,.int .i64 slw,.int .u64 slh,.int .u64 sll,.string sehd,.string senm,.int .i64 shi,.int .i64 slo,.slice sep sen sec,.slice stp stn stc,.slice sup sun suc]] (.int .i64 v):=by
 intro y0
 have h1:=h1.up y0
 have h2:=h2.up y0
 have hc:=hc.plus y0
 obtain⟨V,hV⟩:∃ V,plus w y0=V:=⟨_,rfl⟩
 rw [hV] at h1 h2 hc ⊢
 clear hV
 have h1':=Lib.hid h1
 have h2':=Lib.hid h2
 have hc':=Lib.hid hc
 clear h1 h2 hc
 go_enter Tryz.func31,Tryz.ntmps31
 go_upto_region 1 with (fail)
 obtain⟨W,yy,hW,⟨z,hz2⟩,cp,ci⟩:=box2n V _ _ 30 49
 rw [hW]
 have cp0:=cp 0 _ rfl
 have cp1:=cp 1 _ rfl
 have cp2:=cp 2 _ rfl
 have cp3:=cp 3 _ rfl
 have cp4:=cp 4 _ rfl
 have cp5:=cp 5 _ rfl
 have cp6:=cp 6 _ rfl
 have ci0:=ci 0 _ rfl
 have ci1:=ci 1 _ rfl
 have ci2:=ci 2 _ rfl
 have ci3:=ci 3 _ rfl
 have ci4:=ci 4 _ rfl
 have ci5:=ci 5 _ rfl
 have ci6:=ci 6 _ rfl
 have ci7:=ci 7 _ rfl
 have ci8:=ci 8 _ rfl
 have ci9:=ci 9 _ rfl
 have ci10:=ci 10 _ rfl
 have ci11:=ci 11 _ rfl
 have ci12:=ci 12 _ rfl
 have ci13:=ci 13 _ rfl
 have ci14:=ci 14 _ rfl
 have ci15:=ci 15 _ rfl
 have ci16:=ci 16 _ rfl
 have hcW:=cells_up hz2 hc'.out
 have d0:=fun y=>(hcW.plus y).c0 _ rfl
 simp only [Nat.mul_one] at d0
 have qh1:=Lib.hid (kp_at hz2 h1'.out)
 have qh2:=Lib.hid (kp_at hz2 h2'.out)
 have hz3:=Lib.hid hz2
 clear hW hz2 cp ci h1' h2' hc' hcW
 refine wp_region_own (by kernel_rfl) (by kernel_rfl) ?_
 repeat (go_big_quiet_step (fail))
 refine wpQuiet_nil ?_
 rintro _ ⟨y1,rfl⟩
 go_upto_region 33 with (fail)
 refine wp_region_own (by kernel_rfl) (by kernel_rfl) ?_
 repeat (go_big_quiet_step (first|(with_reducible exact qh1.out _)|(with_reducible exact qh2.out _)))
 refine wpQuiet_nil ?_
 rintro _ ⟨y2,rfl⟩
 go_wp2_with (first|(go_at_call 87;with_reducible refine (qh1.out _).mono ?_;rintro r w' ⟨rfl,x,rfl⟩)|(go_at_call 95;with_reducible refine (qh2.out _).mono ?_;rintro r w' ⟨rfl,x,rfl⟩))
 go_ret
 exact⟨rfl,by rw [hz3.out,plus_plus];exact⟨_,rfl⟩⟩
end Go.Proofs.YtobhijbncchpiaaGreat

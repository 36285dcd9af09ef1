/-
  WHAT IS PROVED HERE: a part of the proof (made narrower and merged by program; the parts: Wf Wh).
-/
import Derived.Test.YtlmhldcebllckaaGreatRows
import Derived.WalkKit
import Derived.Lib.Hide
import Derived.WalkSpells
import Derived.WalkLawsBesides
import Derived.Test.YtlmhldcebllckaaGreatM20
import Derived.Test.YtlmhldcebllckaaGreatM9
namespace Go.Proofs.YtlmhldcebllckaaGreat
open Go.RowKit
set_option maxRecDepth 100000 in
set_option maxHeartbeats 8000000 in
theorem p_take (p0:Option Addr) (n0 c0:Nat) (p1:Option Addr) (n1 c1:Nat) (p3:Option Addr) (n3 c3:Nat) (p4:Option Addr) (n4 c4:Nat) (p5:Option Addr) (n5 c5:Nat) (p6:Option Addr) (n6 c6:Nat) (pa:Addr) (n nc:Nat) (xn:ByteArray) (pb:Addr) (m mc:Nat) (xt:ByteArray) (kp:Option Addr) (kn kc:Nat) (cp:Option Addr) (cn cc:Nat) (xs:ByteArray)  (skd:Int) (shd snm:ByteArray) (sop slw slh sll:Int) (sehd senm:ByteArray) (shi slo:Int) (sep:Option Addr) (sen sec:Nat) (stp:Option Addr) (stn stc:Nat) (sup:Option Addr) (sun suc:Nat) (I:Int) (v:Bool) (w:World) (k:Nat) (hk:k < n) (hc:CellsAt w (pa.add (k * 5)) [.string xn,.slice (some pb) m mc,.string xt,.slice kp kn kc,.slice cp cn cc]) (j:Nat) (hj:j < m) (hc2:CellsAt w (pb.add (j * 1)) [.string xs])
  (h1:Kp Tryz.prog w 124 #[.agg #[.slice p0 n0 c0,.slice p1 n1 c1,.slice (some pa) n nc,.slice p3 n3 c3,.slice p4 n4 c4,.slice p5 n5 c5,.slice p6 n6 c6],.string xs] (.int .i64 I)) (hI:I = -1 ∨ ¬ I < 0)
  (hv:(I != -1) = v) :
  Kp Tryz.prog w 83 #[.agg #[.slice p0 n0 c0,.slice p1 n1 c1,.slice (some pa) n nc,.slice p3 n3 c3,.slice p4 n4 c4,.slice p5 n5 c5,.slice p6 n6 c6],.agg #[.int .u8 5,.int .i64 (k:Int),.int .i64 (j:Int),.int .u8 skd,.string shd,.string snm,.int .u8 sop,.int .i64 slw,.int .u64 slh,.int .u64 sll,.string sehd,.string senm,.int .i64 shi,.int .i64 slo,.slice sep sen sec,.slice stp stn stc,.slice sup sun suc]] (.bool v):=by
 intro y0
 have h1:=h1.up y0
 have hc:=hc.plus y0
 have hc2:=hc2.plus y0
 obtain ⟨V,hV⟩:∃ V,plus w y0 = V:=⟨_,rfl⟩
 rw [hV] at h1 hc hc2 ⊢
 clear hV
 have h1':=Lib.hid h1
 have hc':=Lib.hid hc
 have hc2':=Lib.hid hc2
 clear h1 hc hc2
 have hv0:=Lib.hid hv
 clear hv
 go_enter Tryz.func83,Tryz.ntmps83
 go_upto_region 1 with (fail)
 obtain ⟨W,yy,hW,⟨z,hz2⟩,cp,ci⟩:=box2n V _ _ 30 77
 rw [hW]
 have cp0:=cp 0 _ rfl
 have cp1:=cp 1 _ rfl
 have cp2:=cp 2 _ rfl
 have cp3:=cp 3 _ rfl
 have cp4:=cp 4 _ rfl
 have cp5:=cp 5 _ rfl
 have cp6:=cp 6 _ rfl
 have ci0:=ci 0 _ rfl
 have ci1:=ci 1 _ rfl
 have ci2:=ci 2 _ rfl
 have ci3:=ci 3 _ rfl
 have ci4:=ci 4 _ rfl
 have ci5:=ci 5 _ rfl
 have ci6:=ci 6 _ rfl
 have ci7:=ci 7 _ rfl
 have ci8:=ci 8 _ rfl
 have ci9:=ci 9 _ rfl
 have ci10:=ci 10 _ rfl
 have ci11:=ci 11 _ rfl
 have ci12:=ci 12 _ rfl
 have ci13:=ci 13 _ rfl
 have ci14:=ci 14 _ rfl
 have ci15:=ci 15 _ rfl
 have ci16:=ci 16 _ rfl
 have hcW:=cells_up hz2 hc'.out
 have d0:=fun y=>(hcW.plus y).c0 _ rfl
 have d1:=fun y=>(hcW.plus y).cs 0 _ rfl
 have d2:=fun y=>(hcW.plus y).cs 1 _ rfl
 have d3:=fun y=>(hcW.plus y).cs 2 _ rfl
 have d4:=fun y=>(hcW.plus y).cs 3 _ rfl
 have hc2W:=cells_up hz2 hc2'.out
 have e0:=fun y=>(hc2W.plus y).c0 _ rfl
 simp only [Nat.mul_one] at e0
 have hz2':=Lib.hid hz2
 clear hW hz2 cp ci hcW hc2W
 go_upto_region 2 with (fail)
 obtain ⟨U,hU,hB,-,ct,-⟩:=box1 (plus W yy) _ 52
 rw [← hU]
 obtain ⟨z9,hz9⟩:=plus_of_below hB
 obtain ⟨zW,hzW⟩:∃ x,U = plus W x:=by rw [hz9,plus_plus];exact ⟨_,rfl⟩
 obtain ⟨zU,hzU⟩:∃ x,U = plus V x:=by rw [hzW,hz2'.out,plus_plus];exact ⟨_,rfl⟩
 have cp0:=lift_cell hzW cp0
 have cp1:=lift_cell hzW cp1
 have cp2:=lift_cell hzW cp2
 have cp3:=lift_cell hzW cp3
 have cp4:=lift_cell hzW cp4
 have cp5:=lift_cell hzW cp5
 have cp6:=lift_cell hzW cp6
 have ci0:=lift_cell hzW ci0
 have ci1:=lift_cell hzW ci1
 have ci2:=lift_cell hzW ci2
 have ci3:=lift_cell hzW ci3
 have ci4:=lift_cell hzW ci4
 have ci5:=lift_cell hzW ci5
 have ci6:=lift_cell hzW ci6
 have ci7:=lift_cell hzW ci7
 have ci8:=lift_cell hzW ci8
 have ci9:=lift_cell hzW ci9
 have ci10:=lift_cell hzW ci10
 have ci11:=lift_cell hzW ci11
 have ci12:=lift_cell hzW ci12
 have ci13:=lift_cell hzW ci13
 have ci14:=lift_cell hzW ci14
 have ci15:=lift_cell hzW ci15
 have ci16:=lift_cell hzW ci16
 clear d0 d1 d2 d3 d4 e0
 have hcW:=cells_up hzU hc'.out
 have d0:=fun y=>(hcW.plus y).c0 _ rfl
 have d1:=fun y=>(hcW.plus y).cs 0 _ rfl
 have d2:=fun y=>(hcW.plus y).cs 1 _ rfl
 have d3:=fun y=>(hcW.plus y).cs 2 _ rfl
 have d4:=fun y=>(hcW.plus y).cs 3 _ rfl
 have hc2W:=cells_up hzU hc2'.out
 have e0:=fun y=>(hc2W.plus y).c0 _ rfl
 simp only [Nat.mul_one] at e0
 have ct0:=ct 0 _ rfl
 have ct1:=ct 1 _ rfl
 have ct2:=ct 2 _ rfl
 have ct3:=ct 3 _ rfl
 have ct4:=ct 4 _ rfl
 have qh1:=Lib.hid (kp_at hzU h1'.out)
 have hz3:=Lib.hid hzU
 clear hU hB ct hz9 hzW hzU hz2' h1' hc' hc2' hcW hc2W
 rw [← plus_self U]
 have hv:=hv0.out
 clear hv0
 go_upto_region 3 with (fail)
 refine wp_region_own (by kernel_rfl) (by kernel_rfl) ?_
 repeat (go_big_quiet_step (first | (with_reducible exact qh1.out _)))
 refine wpQuiet_nil ?_
 rintro _ ⟨y13,rfl⟩
 rcases hI with i1 | i1
 ·subst i1
  replace hv:=Lib.hid hv
  go_wp2_with (fail)
  go_ret
  exact ⟨congrArg (fun z=>Ending.returned (Value.bool z)) hv.out,by rw [hz3.out,plus_plus];exact ⟨_,rfl⟩⟩
 ·have i2:0 ≤ I:=by omega
  have i3:(I != -1) = true:=by rw [bne_iff_ne];omega
  rw [i3] at hv
  replace hv:=Lib.hid hv
  clear i3
  go_wp2_with (fail)
  go_ret
  exact ⟨congrArg (fun z=>Ending.returned (Value.bool z)) hv.out,by rw [hz3.out,plus_plus];exact ⟨_,rfl⟩⟩
set_option maxRecDepth 100000 in
set_option maxHeartbeats 8000000 in
theorem p_case (p0:Option Addr) (n0 c0:Nat) (p1:Option Addr) (n1 c1:Nat) (p3:Option Addr) (n3 c3:Nat) (p4:Option Addr) (n4 c4:Nat) (p5:Option Addr) (n5 c5:Nat) (p6:Option Addr) (n6 c6:Nat) (pa:Addr) (n nc:Nat) (xn:ByteArray) (tp:Option Addr) (tn tc:Nat) (xt:ByteArray) (kp:Option Addr) (kn kc:Nat) (pb:Addr) (m mc:Nat) (yd:Bool) (yp:Option Addr) (yn yc:Nat) (yt:ByteArray)  (skd:Int) (shd snm:ByteArray) (sop slw slh sll:Int) (sehd senm:ByteArray) (shi slo:Int) (sep:Option Addr) (sen sec:Nat) (stp:Option Addr) (stn stc:Nat) (sup:Option Addr) (sun suc:Nat) (I:Int) (bI:Bool) (v:Bool) (w:World) (k:Nat) (hk:k < n) (hc:CellsAt w (pa.add (k * 5)) [.string xn,.slice tp tn tc,.string xt,.slice kp kn kc,.slice (some pb) m mc]) (j:Nat) (hj:j < m) (hc2:CellsAt w (pb.add (j * 3)) [.bool yd,.slice yp yn yc,.string yt])
  (h1:Kp Tryz.prog w 125 #[.agg #[.slice p0 n0 c0,.slice p1 n1 c1,.slice (some pa) n nc,.slice p3 n3 c3,.slice p4 n4 c4,.slice p5 n5 c5,.slice p6 n6 c6],.string yt] (.tuple #[.int .i64 I,.bool bI]))
  (hv:bI = v) :
  Kp Tryz.prog w 83 #[.agg #[.slice p0 n0 c0,.slice p1 n1 c1,.slice (some pa) n nc,.slice p3 n3 c3,.slice p4 n4 c4,.slice p5 n5 c5,.slice p6 n6 c6],.agg #[.int .u8 7,.int .i64 (k:Int),.int .i64 (j:Int),.int .u8 skd,.string shd,.string snm,.int .u8 sop,.int .i64 slw,.int .u64 slh,.int .u64 sll,.string sehd,.string senm,.int .i64 shi,.int .i64 slo,.slice sep sen sec,.slice stp stn stc,.slice sup sun suc]] (.bool v):=by
 intro y0
 have h1:=h1.up y0
 have hc:=hc.plus y0
 have hc2:=hc2.plus y0
 obtain ⟨V,hV⟩:∃ V,plus w y0 = V:=⟨_,rfl⟩
 rw [hV] at h1 hc hc2 ⊢
 clear hV
 have h1':=Lib.hid h1
 have hc':=Lib.hid hc
 have hc2':=Lib.hid hc2
 clear h1 hc hc2
 have hv0:=Lib.hid hv
 clear hv
 go_enter Tryz.func83,Tryz.ntmps83
 go_upto_region 1 with (fail)
 obtain ⟨W,yy,hW,⟨z,hz2⟩,cp,ci⟩:=box2n V _ _ 30 77
 rw [hW]
 have cp0:=cp 0 _ rfl
 have cp1:=cp 1 _ rfl
 have cp2:=cp 2 _ rfl
 have cp3:=cp 3 _ rfl
 have cp4:=cp 4 _ rfl
 have cp5:=cp 5 _ rfl
 have cp6:=cp 6 _ rfl
 have ci0:=ci 0 _ rfl
 have ci1:=ci 1 _ rfl
 have ci2:=ci 2 _ rfl
 have ci3:=ci 3 _ rfl
 have ci4:=ci 4 _ rfl
 have ci5:=ci 5 _ rfl
 have ci6:=ci 6 _ rfl
 have ci7:=ci 7 _ rfl
 have ci8:=ci 8 _ rfl
 have ci9:=ci 9 _ rfl
 have ci10:=ci 10 _ rfl
 have ci11:=ci 11 _ rfl
 have ci12:=ci 12 _ rfl
 have ci13:=ci 13 _ rfl
 have ci14:=ci 14 _ rfl
 have ci15:=ci 15 _ rfl
 have ci16:=ci 16 _ rfl
 have hcW:=cells_up hz2 hc'.out
 have d0:=fun y=>(hcW.plus y).c0 _ rfl
 have d1:=fun y=>(hcW.plus y).cs 0 _ rfl
 have d2:=fun y=>(hcW.plus y).cs 1 _ rfl
 have d3:=fun y=>(hcW.plus y).cs 2 _ rfl
 have d4:=fun y=>(hcW.plus y).cs 3 _ rfl
 have hc2W:=cells_up hz2 hc2'.out
 have e0:=fun y=>(hc2W.plus y).c0 _ rfl
 have e1:=fun y=>(hc2W.plus y).cs 0 _ rfl
 have e2:=fun y=>(hc2W.plus y).cs 1 _ rfl
 have hz2':=Lib.hid hz2
 clear hW hz2 cp ci hcW hc2W
 go_upto_region 2 with (fail)
 obtain ⟨U,hU,hB,-,ct,-⟩:=box1 (plus W yy) _ 52
 rw [← hU]
 obtain ⟨z9,hz9⟩:=plus_of_below hB
 obtain ⟨zW,hzW⟩:∃ x,U = plus W x:=by rw [hz9,plus_plus];exact ⟨_,rfl⟩
 obtain ⟨zU,hzU⟩:∃ x,U = plus V x:=by rw [hzW,hz2'.out,plus_plus];exact ⟨_,rfl⟩
 have cp0:=lift_cell hzW cp0
 have cp1:=lift_cell hzW cp1
 have cp2:=lift_cell hzW cp2
 have cp3:=lift_cell hzW cp3
 have cp4:=lift_cell hzW cp4
 have cp5:=lift_cell hzW cp5
 have cp6:=lift_cell hzW cp6
 have ci0:=lift_cell hzW ci0
 have ci1:=lift_cell hzW ci1
 have ci2:=lift_cell hzW ci2
 have ci3:=lift_cell hzW ci3
 have ci4:=lift_cell hzW ci4
 have ci5:=lift_cell hzW ci5
 have ci6:=lift_cell hzW ci6
 have ci7:=lift_cell hzW ci7
 have ci8:=lift_cell hzW ci8
 have ci9:=lift_cell hzW ci9
 have ci10:=lift_cell hzW ci10
 have ci11:=lift_cell hzW ci11
 have ci12:=lift_cell hzW ci12
 have ci13:=lift_cell hzW ci13
 have ci14:=lift_cell hzW ci14
 have ci15:=lift_cell hzW ci15
 have ci16:=lift_cell hzW ci16
 clear d0 d1 d2 d3 d4 e0 e1 e2
 have hcW:=cells_up hzU hc'.out
 have d0:=fun y=>(hcW.plus y).c0 _ rfl
 have d1:=fun y=>(hcW.plus y).cs 0 _ rfl
 have d2:=fun y=>(hcW.plus y).cs 1 _ rfl
 have d3:=fun y=>(hcW.plus y).cs 2 _ rfl
 have d4:=fun y=>(hcW.plus y).cs 3 _ rfl
 have hc2W:=cells_up hzU hc2'.out
 have e0:=fun y=>(hc2W.plus y).c0 _ rfl
 have e1:=fun y=>(hc2W.plus y).cs 0 _ rfl
 have e2:=fun y=>(hc2W.plus y).cs 1 _ rfl
 have ct0:=ct 0 _ rfl
 have ct1:=ct 1 _ rfl
 have ct2:=ct 2 _ rfl
 have ct3:=ct 3 _ rfl
 have ct4:=ct 4 _ rfl
 have qh1:=Lib.hid (kp_at hzU h1'.out)
 have hz3:=Lib.hid hzU
 clear hU hB ct hz9 hzW hzU hz2' h1' hc' hc2' hcW hc2W
 rw [← plus_self U]
 have hv:=hv0.out
 clear hv0
 subst hv
 go_upto_region 5 with (fail)
 refine wp_region_own (by kernel_rfl) (by kernel_rfl) ?_
 repeat (go_big_quiet_step (first | (with_reducible exact qh1.out _)))
 refine wpQuiet_nil ?_
 rintro _ ⟨y15,rfl⟩
 go_wp2_with (fail)
 go_ret
 exact ⟨rfl,by rw [hz3.out,plus_plus];exact ⟨_,rfl⟩⟩
set_option maxRecDepth 100000 in
set_option maxHeartbeats 8000000 in
theorem p_next (p0:Option Addr) (n0 c0:Nat) (p1:Option Addr) (n1 c1:Nat) (p3:Option Addr) (n3 c3:Nat) (p4:Option Addr) (n4 c4:Nat) (p5:Option Addr) (n5 c5:Nat) (p6:Option Addr) (n6 c6:Nat) (pa:Addr) (n nc:Nat) (xn:ByteArray) (tp:Option Addr) (tn tc:Nat) (xt:ByteArray) (kp:Option Addr) (kn kc:Nat) (cp:Option Addr) (cn cc:Nat)  (skd:Int) (shd snm:ByteArray) (sop slw slh sll:Int) (sehd senm:ByteArray) (shi slo:Int) (sep:Option Addr) (sen sec:Nat) (stp:Option Addr) (stn stc:Nat) (sup:Option Addr) (sun suc:Nat) (I:Int) (bI:Bool) (ks:List Ex) (F:Ex → Bool) (v:Bool) (w:World) (k:Nat) (hk:k < n) (hc:CellsAt w (pa.add (k * 5)) [.string xn,.slice tp tn tc,.string xt,.slice kp kn kc,.slice cp cn cc])
  (h1:Kp Tryz.prog w 125 #[.agg #[.slice p0 n0 c0,.slice p1 n1 c1,.slice (some pa) n nc,.slice p3 n3 c3,.slice p4 n4 c4,.slice p5 n5 c5,.slice p6 n6 c6],.string xt] (.tuple #[.int .i64 I,.bool bI])) (hkl:ks.length = kn) (hkb:kn ≤ 1048576) (hrow:RowAt w 9 Ex.cells kp ks) (hkid:∀ e ∈ ks,Kp Tryz.prog w 84 #[.agg #[.slice p0 n0 c0,.slice p1 n1 c1,.slice (some pa) n nc,.slice p3 n3 c3,.slice p4 n4 c4,.slice p5 n5 c5,.slice p6 n6 c6],.int .i64 (-1),.agg #[.int .u8 e.op,.int .i64 e.lit.w,.int .u64 e.lit.h,.int .u64 e.lit.l,.string e.head,.string e.name,.int .i64 e.hi,.int .i64 e.lo,.slice e.p e.args.length e.cap]] (.bool (e.there F)))
  (hv:(if (xt.toList == ([]:List UInt8)) = true then ks.all (Ex.there F) else bI) = v) :
  Kp Tryz.prog w 83 #[.agg #[.slice p0 n0 c0,.slice p1 n1 c1,.slice (some pa) n nc,.slice p3 n3 c3,.slice p4 n4 c4,.slice p5 n5 c5,.slice p6 n6 c6],.agg #[.int .u8 6,.int .i64 (k:Int),.int .i64 0,.int .u8 skd,.string shd,.string snm,.int .u8 sop,.int .i64 slw,.int .u64 slh,.int .u64 sll,.string sehd,.string senm,.int .i64 shi,.int .i64 slo,.slice sep sen sec,.slice stp stn stc,.slice sup sun suc]] (.bool v):=by
 intro y0
 have h1:=h1.up y0
 have hc:=hc.plus y0
 have hrow:=hrow.plus y0
 have hkid:=fun e he=>(hkid e he).up y0
 obtain ⟨V,hV⟩:∃ V,plus w y0 = V:=⟨_,rfl⟩
 rw [hV] at h1 hc hrow hkid ⊢
 clear hV
 have h1':=Lib.hid h1
 have hc':=Lib.hid hc
 have hrow':=Lib.hid hrow
 have hkid':=Lib.hid hkid
 clear h1 hc hrow hkid
 have hv0:=Lib.hid hv
 clear hv
 go_enter Tryz.func83,Tryz.ntmps83
 go_upto_region 1 with (fail)
 obtain ⟨W,yy,hW,⟨z,hz2⟩,cp,ci⟩:=box2n V _ _ 30 77
 rw [hW]
 have cp0:=cp 0 _ rfl
 have cp1:=cp 1 _ rfl
 have cp2:=cp 2 _ rfl
 have cp3:=cp 3 _ rfl
 have cp4:=cp 4 _ rfl
 have cp5:=cp 5 _ rfl
 have cp6:=cp 6 _ rfl
 have ci0:=ci 0 _ rfl
 have ci1:=ci 1 _ rfl
 have ci2:=ci 2 _ rfl
 have ci3:=ci 3 _ rfl
 have ci4:=ci 4 _ rfl
 have ci5:=ci 5 _ rfl
 have ci6:=ci 6 _ rfl
 have ci7:=ci 7 _ rfl
 have ci8:=ci 8 _ rfl
 have ci9:=ci 9 _ rfl
 have ci10:=ci 10 _ rfl
 have ci11:=ci 11 _ rfl
 have ci12:=ci 12 _ rfl
 have ci13:=ci 13 _ rfl
 have ci14:=ci 14 _ rfl
 have ci15:=ci 15 _ rfl
 have ci16:=ci 16 _ rfl
 have hcW:=cells_up hz2 hc'.out
 have d0:=fun y=>(hcW.plus y).c0 _ rfl
 have d1:=fun y=>(hcW.plus y).cs 0 _ rfl
 have d2:=fun y=>(hcW.plus y).cs 1 _ rfl
 have d3:=fun y=>(hcW.plus y).cs 2 _ rfl
 have d4:=fun y=>(hcW.plus y).cs 3 _ rfl
 have hz2':=Lib.hid hz2
 clear hW hz2 cp ci hcW
 go_upto_region 2 with (fail)
 obtain ⟨U,hU,hB,-,ct,-⟩:=box1 (plus W yy) _ 52
 rw [← hU]
 obtain ⟨z9,hz9⟩:=plus_of_below hB
 obtain ⟨zW,hzW⟩:∃ x,U = plus W x:=by rw [hz9,plus_plus];exact ⟨_,rfl⟩
 obtain ⟨zU,hzU⟩:∃ x,U = plus V x:=by rw [hzW,hz2'.out,plus_plus];exact ⟨_,rfl⟩
 have cp0:=lift_cell hzW cp0
 have cp1:=lift_cell hzW cp1
 have cp2:=lift_cell hzW cp2
 have cp3:=lift_cell hzW cp3
 have cp4:=lift_cell hzW cp4
 have cp5:=lift_cell hzW cp5
 have cp6:=lift_cell hzW cp6
 have ci0:=lift_cell hzW ci0
 have ci1:=lift_cell hzW ci1
 have ci2:=lift_cell hzW ci2
 have ci3:=lift_cell hzW ci3
 have ci4:=lift_cell hzW ci4
 have ci5:=lift_cell hzW ci5
 have ci6:=lift_cell hzW ci6
 have ci7:=lift_cell hzW ci7
 have ci8:=lift_cell hzW ci8
 have ci9:=lift_cell hzW ci9
 have ci10:=lift_cell hzW ci10
 have ci11:=lift_cell hzW ci11
 have ci12:=lift_cell hzW ci12
 have ci13:=lift_cell hzW ci13
 have ci14:=lift_cell hzW ci14
 have ci15:=lift_cell hzW ci15
 have ci16:=lift_cell hzW ci16
 clear d0 d1 d2 d3 d4
 have hcW:=cells_up hzU hc'.out
 have d0:=fun y=>(hcW.plus y).c0 _ rfl
 have d1:=fun y=>(hcW.plus y).cs 0 _ rfl
 have d2:=fun y=>(hcW.plus y).cs 1 _ rfl
 have d3:=fun y=>(hcW.plus y).cs 2 _ rfl
 have d4:=fun y=>(hcW.plus y).cs 3 _ rfl
 have ct0:=ct 0 _ rfl
 have ct1:=ct 1 _ rfl
 have ct2:=ct 2 _ rfl
 have ct3:=ct 3 _ rfl
 have ct4:=ct 4 _ rfl
 have qh1:=Lib.hid (kp_at hzU h1'.out)
 have hz3:=Lib.hid hzU
 clear hU hB ct hz9 hzW hzU hz2' h1' hc' hcW
 rw [← plus_self U]
 have hv:=hv0.out
 clear hv0
 by_cases e0:(xt.toList == ([]:List UInt8)) = true
 ·rw [if_pos e0] at hv
  have e2:xt.toList.isEmpty = true:=by simpa using e0
  have h0':=Lib.hid (show (ks.drop 0).all (Ex.there F) = v from hv)
  have hrU:=Lib.hid (show RowAt U 9 Ex.cells kp ks from by rw [hz3.out];exact hrow'.out.plus zU)
  have hkU:=Lib.hid (fun e (he:e ∈ ks)=>kp_at hz3.out (hkid'.out e he))
  have hn':=Lib.hid hkl
  have hl':=Lib.hid hkb
  clear hv hrow' hkid' hkl hkb qh1
  go_wp2
  go_loopw [10] (fun iv wr=>∃ k2:Nat,k2 ≤ kn ∧ iv = .int .i64 (k2:Int) ∧ Hid ((ks.drop k2).all (Ex.there F) = v) ∧ ∃ y,wr = plus U y) (fun iv _=>kn - (intOf iv).toNat)
  case atStart=>exact ⟨0,Nat.zero_le _,rfl,h0',_,rfl⟩
  case round =>
   obtain ⟨k2,hk2,rfl,hs,y,rfl⟩:=hrel
   by_cases hlt:k2 < kn
   ·obtain ⟨e,he⟩:∃ e,ks[k2]? = some e:=⟨ks[k2]'(by rw [hn'.out];exact hlt),List.getElem?_eq_getElem _⟩
    obtain ⟨a,hap,hc⟩:=hrU.out k2 e he
    have hmem:e ∈ ks:=List.mem_of_getElem? he
    have hs1:(e.there F && (ks.drop (k2 + 1)).all (Ex.there F)) = v:=by rw [← there_drop F ks k2 e he];exact hs.out
    have hkid2:=hkU.out e hmem
    have hc':∀ y,CellsAt (plus U y) (a.add (k2 * 9)) e.cells:=fun y=>hc.plus y
    obtain ⟨Z,hZ⟩:∃ Z,e.there F = Z:=⟨_,rfl⟩
    rw [hZ] at hkid2 hs1
    obtain ⟨eop,⟨elw,elh,ell⟩,ehd,enm,eeh,eel,eep,ecap,eargs⟩:=e
    have u0:=fun y=>(hc' y).c0 _ rfl
    have u1:=fun y=>(hc' y).cs 0 _ rfl
    have u2:=fun y=>(hc' y).cs 1 _ rfl
    have u3:=fun y=>(hc' y).cs 2 _ rfl
    have u4:=fun y=>(hc' y).cs 3 _ rfl
    have u5:=fun y=>(hc' y).cs 4 _ rfl
    have u6:=fun y=>(hc' y).cs 5 _ rfl
    have u7:=fun y=>(hc' y).cs 6 _ rfl
    have u8:=fun y=>(hc' y).cs 7 _ rfl
    simp only [Ex.op,Ex.lit,Ex.head,Ex.name,Ex.hi,Ex.lo,Ex.p,Ex.cap,Ex.args] at hkid2 u0 u1 u2 u3 u4 u5 u6 u7 u8
    have hkid2':=Lib.hid hkid2
    have a6:=Lib.hid (wr_succ k2 kn hlt hl'.out)
    rw [hap]
    clear hc' hc hkid2 hmem he hZ hs
    cases Z with
    | true =>
     have hs2:=Lib.hid (show (ks.drop (k2 + 1)).all (Ex.there F) = v by rw [← hs1,Bool.true_and])
     clear hs1
     go_upto_region 13 with (fail)
     refine wp_region_own (by kernel_rfl) (by kernel_rfl) ?_
     repeat (go_big_quiet_step (first | (with_reducible exact hkid2'.out _)))
     refine wpQuiet_nil ?_
     rintro _ ⟨y9,rfl⟩
     go_wp2
     go_roundw
     case rel=>exact ⟨k2 + 1,hlt,congrArg (Value.int .i64) a6.out,hs2,_,rfl⟩
     case measure=>exact step_less k2 kn hlt a6.out
    | false =>
     have hs2:=Lib.hid (show false = v by rw [← hs1,Bool.false_and])
     clear hs1
     go_upto_region 13 with (fail)
     refine wp_region_own (by kernel_rfl) (by kernel_rfl) ?_
     repeat (go_big_quiet_step (first | (with_reducible exact hkid2'.out _)))
     refine wpQuiet_nil ?_
     rintro _ ⟨y9,rfl⟩
     go_wp2
     go_ret
     exact ⟨rb hs2.out,by rw [hz3.out,plus_plus];exact ⟨_,rfl⟩⟩
   ·obtain rfl:k2 = kn:=by omega
    have hs2:=Lib.hid (show true = v by rw [← hs.out,List.drop_of_length_le (by rw [hn'.out];exact Nat.le_refl _)];rfl)
    clear hs hlt hk2
    go_wp2
    go_ret
    exact ⟨rb hs2.out,by rw [hz3.out,plus_plus];exact ⟨_,rfl⟩⟩
 ·rw [if_neg e0] at hv
  have e1:(xt.toList == ([]:List UInt8)) = false:=by simpa using e0
  have e2:xt.toList.isEmpty = false:=by simpa using e0
  clear e0 hrow' hkid' hkl hkb
  subst hv
  go_wp2_with (first | (go_at_call 125;with_reducible refine (qh1.out _).mono ?_;rintro r w' ⟨rfl,x,rfl⟩))
  go_ret
  exact ⟨rfl,by rw [hz3.out,plus_plus];exact ⟨_,rfl⟩⟩
end Go.Proofs.YtlmhldcebllckaaGreat

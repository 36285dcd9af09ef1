/-
  WHAT IS PROVED HERE: a part of the proof (made narrower and merged by program; the parts: Wg).
-/
import Derived.Test.YtlmhldcebllckaaGreatRows
import Derived.WalkKit
import Derived.Lib.Hide
import Derived.WalkSpells
import Derived.WalkLawsBesides
import Derived.Test.YtlmhldcebllckaaGreatM20
import Derived.Test.YtlmhldcebllckaaGreatM9
namespace Go.Proofs.YtlmhldcebllckaaGreat
open Go.RowKit
set_option maxRecDepth 100000 in
set_option maxHeartbeats 8000000 in
theorem l_emit (p0:Option Addr) (n0 c0:Nat) (p1:Option Addr) (n1 c1:Nat) (p2:Option Addr) (n2 c2:Nat) (p3:Option Addr) (n3 c3:Nat) (p4:Option Addr) (n4 c4:Nat) (p5:Option Addr) (n5 c5:Nat) (pa:Addr) (n nc:Nat) (xs:ByteArray)  (skd:Int) (shd snm:ByteArray) (sop slw slh sll:Int) (sehd senm:ByteArray) (shi slo:Int) (sep:Option Addr) (sen sec:Nat) (stp:Option Addr) (stn stc:Nat) (sup:Option Addr) (sun suc:Nat) (I J:Int) (v:Int) (w:World) (k:Nat) (hk:k < n) (hc:CellsAt w (pa.add (k * 1)) [.string xs])
  (h1:Kp Tryz.prog w 124 #[.agg #[.slice p0 n0 c0,.slice p1 n1 c1,.slice p2 n2 c2,.slice p3 n3 c3,.slice p4 n4 c4,.slice p5 n5 c5,.slice (some pa) n nc],.string xs] (.int .i64 I))
  (h2:Kp Tryz.prog w 130 #[.slice (some pa) n nc,.string xs] (.int .i64 J)) (hI:I = -1 ∨ ¬ I < 0)
  (hv:(if I = -1 then (7:Int) else if J < (k:Int) then 8 else 0) = v) :
  Kp Tryz.prog w 86 #[.agg #[.slice p0 n0 c0,.slice p1 n1 c1,.slice p2 n2 c2,.slice p3 n3 c3,.slice p4 n4 c4,.slice p5 n5 c5,.slice (some pa) n nc],.agg #[.int .u8 15,.int .i64 (k:Int),.int .i64 0,.int .u8 skd,.string shd,.string snm,.int .u8 sop,.int .i64 slw,.int .u64 slh,.int .u64 sll,.string sehd,.string senm,.int .i64 shi,.int .i64 slo,.slice sep sen sec,.slice stp stn stc,.slice sup sun suc]] (.int .i64 v):=by
 intro y0
 have h1:=h1.up y0
 have h2:=h2.up y0
 have hc:=hc.plus y0
 obtain ⟨V,hV⟩:∃ V,plus w y0 = V:=⟨_,rfl⟩
 rw [hV] at h1 h2 hc ⊢
 clear hV
 have h1':=Lib.hid h1
 have h2':=Lib.hid h2
 have hc':=Lib.hid hc
 clear h1 h2 hc
 have hv0:=Lib.hid hv
 clear hv
 go_enter Tryz.func86,Tryz.ntmps86
 go_upto_region 1 with (fail)
 obtain ⟨W,yy,hW,⟨z,hz2⟩,cp,ci⟩:=box2n V _ _ 30 77
 rw [hW]
 have cp0:=cp 0 _ rfl
 have cp1:=cp 1 _ rfl
 have cp2:=cp 2 _ rfl
 have cp3:=cp 3 _ rfl
 have cp4:=cp 4 _ rfl
 have cp5:=cp 5 _ rfl
 have cp6:=cp 6 _ rfl
 have ci0:=ci 0 _ rfl
 have ci1:=ci 1 _ rfl
 have ci2:=ci 2 _ rfl
 have ci3:=ci 3 _ rfl
 have ci4:=ci 4 _ rfl
 have ci5:=ci 5 _ rfl
 have ci6:=ci 6 _ rfl
 have ci7:=ci 7 _ rfl
 have ci8:=ci 8 _ rfl
 have ci9:=ci 9 _ rfl
 have ci10:=ci 10 _ rfl
 have ci11:=ci 11 _ rfl
 have ci12:=ci 12 _ rfl
 have ci13:=ci 13 _ rfl
 have ci14:=ci 14 _ rfl
 have ci15:=ci 15 _ rfl
 have ci16:=ci 16 _ rfl
 have hcW:=cells_up hz2 hc'.out
 have d0:=fun y=>(hcW.plus y).c0 _ rfl
 simp only [Nat.mul_one] at d0
 have qh1:=Lib.hid (kp_at hz2 h1'.out)
 have qh2:=Lib.hid (kp_at hz2 h2'.out)
 have hz3:=Lib.hid hz2
 clear hW hz2 cp ci h1' h2' hc' hcW
 have hv:=hv0.out
 clear hv0
 go_upto_region 2 with (fail)
 refine wp_region_own (by kernel_rfl) (by kernel_rfl) ?_
 repeat (go_big_quiet_step (first | (with_reducible exact qh1.out _)))
 refine wpQuiet_nil ?_
 rintro _ ⟨y12,rfl⟩
 rcases hI with i1 | i1
 ·subst i1
  rw [if_pos rfl] at hv
  replace hv:=Lib.hid hv
  go_wp2_with (fail)
  go_ret
  exact ⟨congrArg (fun z=>Ending.returned (Value.int .i64 z)) hv.out,by rw [hz3.out,plus_plus];exact ⟨_,rfl⟩⟩
 ·rw [if_neg (by omega)] at hv
  go_upto_region 4 with (fail)
  refine wp_region_own (by kernel_rfl) (by kernel_rfl) ?_
  repeat (go_big_quiet_step (first | (with_reducible exact qh2.out _)))
  refine wpQuiet_nil ?_
  rintro _ ⟨y14,rfl⟩
  by_cases i4:J < (k:Int)
  ·rw [if_pos i4] at hv
   replace hv:=Lib.hid hv
   go_wp2_with (fail)
   go_ret
   exact ⟨congrArg (fun z=>Ending.returned (Value.int .i64 z)) hv.out,by rw [hz3.out,plus_plus];exact ⟨_,rfl⟩⟩
  ·rw [if_neg i4] at hv
   replace hv:=Lib.hid hv
   go_wp2_with (fail)
   go_ret
   exact ⟨congrArg (fun z=>Ending.returned (Value.int .i64 z)) hv.out,by rw [hz3.out,plus_plus];exact ⟨_,rfl⟩⟩
set_option maxRecDepth 100000 in
set_option maxHeartbeats 8000000 in
theorem l_listed (p0:Option Addr) (n0 c0:Nat) (p1:Option Addr) (n1 c1:Nat) (p2:Option Addr) (n2 c2:Nat) (p3:Option Addr) (n3 c3:Nat) (p5:Option Addr) (n5 c5:Nat) (p6:Option Addr) (n6 c6:Nat) (pa:Addr) (n nc:Nat) (xn:ByteArray) (kp:Option Addr) (kn kc:Nat) (pb:Addr) (m mc:Nat) (dn:ByteArray) (gp:Option Addr) (gn gc:Nat) (xs:ByteArray)  (skd:Int) (shd snm:ByteArray) (sop slw slh sll:Int) (sehd senm:ByteArray) (shi slo:Int) (sep:Option Addr) (sen sec:Nat) (stp:Option Addr) (stn stc:Nat) (sup:Option Addr) (sun suc:Nat) (I J:Int) (v:Int) (w:World) (k:Nat) (hk:k < n) (hc:CellsAt w (pa.add (k * 5)) [.string xn,.slice kp kn kc,.slice (some pb) m mc,.string dn,.slice gp gn gc]) (j:Nat) (hj:j < m) (hc2:CellsAt w (pb.add (j * 1)) [.string xs])
  (h1:Kp Tryz.prog w 131 #[.agg #[.slice p0 n0 c0,.slice p1 n1 c1,.slice p2 n2 c2,.slice p3 n3 c3,.slice (some pa) n nc,.slice p5 n5 c5,.slice p6 n6 c6],.string xs] (.int .i64 I))
  (h2:Kp Tryz.prog w 130 #[.slice (some pb) m mc,.string xs] (.int .i64 J)) (hI:I = -1 ∨ ¬ I < 0)
  (hv:(if I = -1 then (7:Int) else if J < (j:Int) then 8 else 0) = v) :
  Kp Tryz.prog w 86 #[.agg #[.slice p0 n0 c0,.slice p1 n1 c1,.slice p2 n2 c2,.slice p3 n3 c3,.slice (some pa) n nc,.slice p5 n5 c5,.slice p6 n6 c6],.agg #[.int .u8 13,.int .i64 (k:Int),.int .i64 (j:Int),.int .u8 skd,.string shd,.string snm,.int .u8 sop,.int .i64 slw,.int .u64 slh,.int .u64 sll,.string sehd,.string senm,.int .i64 shi,.int .i64 slo,.slice sep sen sec,.slice stp stn stc,.slice sup sun suc]] (.int .i64 v):=by
 intro y0
 have h1:=h1.up y0
 have h2:=h2.up y0
 have hc:=hc.plus y0
 have hc2:=hc2.plus y0
 obtain ⟨V,hV⟩:∃ V,plus w y0 = V:=⟨_,rfl⟩
 rw [hV] at h1 h2 hc hc2 ⊢
 clear hV
 have h1':=Lib.hid h1
 have h2':=Lib.hid h2
 have hc':=Lib.hid hc
 have hc2':=Lib.hid hc2
 clear h1 h2 hc hc2
 have hv0:=Lib.hid hv
 clear hv
 go_enter Tryz.func86,Tryz.ntmps86
 go_upto_region 1 with (fail)
 obtain ⟨W,yy,hW,⟨z,hz2⟩,cp,ci⟩:=box2n V _ _ 30 77
 rw [hW]
 have cp0:=cp 0 _ rfl
 have cp1:=cp 1 _ rfl
 have cp2:=cp 2 _ rfl
 have cp3:=cp 3 _ rfl
 have cp4:=cp 4 _ rfl
 have cp5:=cp 5 _ rfl
 have cp6:=cp 6 _ rfl
 have ci0:=ci 0 _ rfl
 have ci1:=ci 1 _ rfl
 have ci2:=ci 2 _ rfl
 have ci3:=ci 3 _ rfl
 have ci4:=ci 4 _ rfl
 have ci5:=ci 5 _ rfl
 have ci6:=ci 6 _ rfl
 have ci7:=ci 7 _ rfl
 have ci8:=ci 8 _ rfl
 have ci9:=ci 9 _ rfl
 have ci10:=ci 10 _ rfl
 have ci11:=ci 11 _ rfl
 have ci12:=ci 12 _ rfl
 have ci13:=ci 13 _ rfl
 have ci14:=ci 14 _ rfl
 have ci15:=ci 15 _ rfl
 have ci16:=ci 16 _ rfl
 have hcW:=cells_up hz2 hc'.out
 have d0:=fun y=>(hcW.plus y).c0 _ rfl
 have d1:=fun y=>(hcW.plus y).cs 0 _ rfl
 have d2:=fun y=>(hcW.plus y).cs 1 _ rfl
 have d3:=fun y=>(hcW.plus y).cs 2 _ rfl
 have d4:=fun y=>(hcW.plus y).cs 3 _ rfl
 have hc2W:=cells_up hz2 hc2'.out
 have e0:=fun y=>(hc2W.plus y).c0 _ rfl
 simp only [Nat.mul_one] at e0
 have hz2':=Lib.hid hz2
 clear hW hz2 cp ci hcW hc2W
 go_upto_region 8 with (fail)
 obtain ⟨U,hU,hB,-,ct,-⟩:=box1 (plus W yy) _ 48
 rw [← hU]
 obtain ⟨z9,hz9⟩:=plus_of_below hB
 obtain ⟨zW,hzW⟩:∃ x,U = plus W x:=by rw [hz9,plus_plus];exact ⟨_,rfl⟩
 obtain ⟨zU,hzU⟩:∃ x,U = plus V x:=by rw [hzW,hz2'.out,plus_plus];exact ⟨_,rfl⟩
 have cp0:=lift_cell hzW cp0
 have cp1:=lift_cell hzW cp1
 have cp2:=lift_cell hzW cp2
 have cp3:=lift_cell hzW cp3
 have cp4:=lift_cell hzW cp4
 have cp5:=lift_cell hzW cp5
 have cp6:=lift_cell hzW cp6
 have ci0:=lift_cell hzW ci0
 have ci1:=lift_cell hzW ci1
 have ci2:=lift_cell hzW ci2
 have ci3:=lift_cell hzW ci3
 have ci4:=lift_cell hzW ci4
 have ci5:=lift_cell hzW ci5
 have ci6:=lift_cell hzW ci6
 have ci7:=lift_cell hzW ci7
 have ci8:=lift_cell hzW ci8
 have ci9:=lift_cell hzW ci9
 have ci10:=lift_cell hzW ci10
 have ci11:=lift_cell hzW ci11
 have ci12:=lift_cell hzW ci12
 have ci13:=lift_cell hzW ci13
 have ci14:=lift_cell hzW ci14
 have ci15:=lift_cell hzW ci15
 have ci16:=lift_cell hzW ci16
 clear d0 d1 d2 d3 d4 e0
 have hcW:=cells_up hzU hc'.out
 have d0:=fun y=>(hcW.plus y).c0 _ rfl
 have d1:=fun y=>(hcW.plus y).cs 0 _ rfl
 have d2:=fun y=>(hcW.plus y).cs 1 _ rfl
 have d3:=fun y=>(hcW.plus y).cs 2 _ rfl
 have d4:=fun y=>(hcW.plus y).cs 3 _ rfl
 have hc2W:=cells_up hzU hc2'.out
 have e0:=fun y=>(hc2W.plus y).c0 _ rfl
 simp only [Nat.mul_one] at e0
 have ct0:=ct 0 _ rfl
 have ct1:=ct 1 _ rfl
 have ct2:=ct 2 _ rfl
 have ct3:=ct 3 _ rfl
 have ct4:=ct 4 _ rfl
 have qh1:=Lib.hid (kp_at hzU h1'.out)
 have qh2:=Lib.hid (kp_at hzU h2'.out)
 have hz3:=Lib.hid hzU
 clear hU hB ct hz9 hzW hzU hz2' h1' h2' hc' hc2' hcW hc2W
 rw [← plus_self U]
 have hv:=hv0.out
 clear hv0
 go_upto_region 9 with (fail)
 refine wp_region_own (by kernel_rfl) (by kernel_rfl) ?_
 repeat (go_big_quiet_step (first | (with_reducible exact qh1.out _)))
 refine wpQuiet_nil ?_
 rintro _ ⟨y19,rfl⟩
 rcases hI with i1 | i1
 ·subst i1
  rw [if_pos rfl] at hv
  replace hv:=Lib.hid hv
  go_wp2_with (fail)
  go_ret
  exact ⟨congrArg (fun z=>Ending.returned (Value.int .i64 z)) hv.out,by rw [hz3.out,plus_plus];exact ⟨_,rfl⟩⟩
 ·rw [if_neg (by omega)] at hv
  go_upto_region 11 with (fail)
  refine wp_region_own (by kernel_rfl) (by kernel_rfl) ?_
  repeat (go_big_quiet_step (first | (with_reducible exact qh2.out _)))
  refine wpQuiet_nil ?_
  rintro _ ⟨y21,rfl⟩
  by_cases i4:J < (j:Int)
  ·rw [if_pos i4] at hv
   replace hv:=Lib.hid hv
   go_wp2_with (fail)
   go_ret
   exact ⟨congrArg (fun z=>Ending.returned (Value.int .i64 z)) hv.out,by rw [hz3.out,plus_plus];exact ⟨_,rfl⟩⟩
  ·rw [if_neg i4] at hv
   replace hv:=Lib.hid hv
   go_wp2_with (fail)
   go_ret
   exact ⟨congrArg (fun z=>Ending.returned (Value.int .i64 z)) hv.out,by rw [hz3.out,plus_plus];exact ⟨_,rfl⟩⟩
set_option maxRecDepth 100000 in
set_option maxHeartbeats 8000000 in
theorem l_dflt_none (p0:Option Addr) (n0 c0:Nat) (p1:Option Addr) (n1 c1:Nat) (p2:Option Addr) (n2 c2:Nat) (p3:Option Addr) (n3 c3:Nat) (p5:Option Addr) (n5 c5:Nat) (p6:Option Addr) (n6 c6:Nat) (pa:Addr) (n nc:Nat) (xn:ByteArray) (kp:Option Addr) (kn kc:Nat) (lp:Option Addr) (ln lc:Nat) (dn:ByteArray) (gp:Option Addr) (gn gc:Nat)  (skd:Int) (shd snm:ByteArray) (sop slw slh sll:Int) (sehd senm:ByteArray) (shi slo:Int) (sep:Option Addr) (sen sec:Nat) (stp:Option Addr) (stn stc:Nat) (sup:Option Addr) (sun suc:Nat) (I J:Int) (v:Int) (w:World) (k:Nat) (hk:k < n) (hc:CellsAt w (pa.add (k * 5)) [.string xn,.slice kp kn kc,.slice lp ln lc,.string dn,.slice gp gn gc])
  (h1:Kp Tryz.prog w 131 #[.agg #[.slice p0 n0 c0,.slice p1 n1 c1,.slice p2 n2 c2,.slice p3 n3 c3,.slice (some pa) n nc,.slice p5 n5 c5,.slice p6 n6 c6],.string dn] (.int .i64 I))
  (h2:Kp Tryz.prog w 130 #[.slice lp ln lc,.string dn] (.int .i64 J)) (hJ:J = -1 ∨ (¬ J < 0 ∧ I = -1))
  (hv:(7:Int) = v) :
  Kp Tryz.prog w 86 #[.agg #[.slice p0 n0 c0,.slice p1 n1 c1,.slice p2 n2 c2,.slice p3 n3 c3,.slice (some pa) n nc,.slice p5 n5 c5,.slice p6 n6 c6],.agg #[.int .u8 14,.int .i64 (k:Int),.int .i64 0,.int .u8 skd,.string shd,.string snm,.int .u8 sop,.int .i64 slw,.int .u64 slh,.int .u64 sll,.string sehd,.string senm,.int .i64 shi,.int .i64 slo,.slice sep sen sec,.slice stp stn stc,.slice sup sun suc]] (.int .i64 v):=by
 intro y0
 have h1:=h1.up y0
 have h2:=h2.up y0
 have hc:=hc.plus y0
 obtain ⟨V,hV⟩:∃ V,plus w y0 = V:=⟨_,rfl⟩
 rw [hV] at h1 h2 hc ⊢
 clear hV
 have h1':=Lib.hid h1
 have h2':=Lib.hid h2
 have hc':=Lib.hid hc
 clear h1 h2 hc
 have hv0:=Lib.hid hv
 clear hv
 go_enter Tryz.func86,Tryz.ntmps86
 go_upto_region 1 with (fail)
 obtain ⟨W,yy,hW,⟨z,hz2⟩,cp,ci⟩:=box2n V _ _ 30 77
 rw [hW]
 have cp0:=cp 0 _ rfl
 have cp1:=cp 1 _ rfl
 have cp2:=cp 2 _ rfl
 have cp3:=cp 3 _ rfl
 have cp4:=cp 4 _ rfl
 have cp5:=cp 5 _ rfl
 have cp6:=cp 6 _ rfl
 have ci0:=ci 0 _ rfl
 have ci1:=ci 1 _ rfl
 have ci2:=ci 2 _ rfl
 have ci3:=ci 3 _ rfl
 have ci4:=ci 4 _ rfl
 have ci5:=ci 5 _ rfl
 have ci6:=ci 6 _ rfl
 have ci7:=ci 7 _ rfl
 have ci8:=ci 8 _ rfl
 have ci9:=ci 9 _ rfl
 have ci10:=ci 10 _ rfl
 have ci11:=ci 11 _ rfl
 have ci12:=ci 12 _ rfl
 have ci13:=ci 13 _ rfl
 have ci14:=ci 14 _ rfl
 have ci15:=ci 15 _ rfl
 have ci16:=ci 16 _ rfl
 have hcW:=cells_up hz2 hc'.out
 have d0:=fun y=>(hcW.plus y).c0 _ rfl
 have d1:=fun y=>(hcW.plus y).cs 0 _ rfl
 have d2:=fun y=>(hcW.plus y).cs 1 _ rfl
 have d3:=fun y=>(hcW.plus y).cs 2 _ rfl
 have d4:=fun y=>(hcW.plus y).cs 3 _ rfl
 have hz2':=Lib.hid hz2
 clear hW hz2 cp ci hcW
 go_upto_region 8 with (fail)
 obtain ⟨U,hU,hB,-,ct,-⟩:=box1 (plus W yy) _ 48
 rw [← hU]
 obtain ⟨z9,hz9⟩:=plus_of_below hB
 obtain ⟨zW,hzW⟩:∃ x,U = plus W x:=by rw [hz9,plus_plus];exact ⟨_,rfl⟩
 obtain ⟨zU,hzU⟩:∃ x,U = plus V x:=by rw [hzW,hz2'.out,plus_plus];exact ⟨_,rfl⟩
 have cp0:=lift_cell hzW cp0
 have cp1:=lift_cell hzW cp1
 have cp2:=lift_cell hzW cp2
 have cp3:=lift_cell hzW cp3
 have cp4:=lift_cell hzW cp4
 have cp5:=lift_cell hzW cp5
 have cp6:=lift_cell hzW cp6
 have ci0:=lift_cell hzW ci0
 have ci1:=lift_cell hzW ci1
 have ci2:=lift_cell hzW ci2
 have ci3:=lift_cell hzW ci3
 have ci4:=lift_cell hzW ci4
 have ci5:=lift_cell hzW ci5
 have ci6:=lift_cell hzW ci6
 have ci7:=lift_cell hzW ci7
 have ci8:=lift_cell hzW ci8
 have ci9:=lift_cell hzW ci9
 have ci10:=lift_cell hzW ci10
 have ci11:=lift_cell hzW ci11
 have ci12:=lift_cell hzW ci12
 have ci13:=lift_cell hzW ci13
 have ci14:=lift_cell hzW ci14
 have ci15:=lift_cell hzW ci15
 have ci16:=lift_cell hzW ci16
 clear d0 d1 d2 d3 d4
 have hcW:=cells_up hzU hc'.out
 have d0:=fun y=>(hcW.plus y).c0 _ rfl
 have d1:=fun y=>(hcW.plus y).cs 0 _ rfl
 have d2:=fun y=>(hcW.plus y).cs 1 _ rfl
 have d3:=fun y=>(hcW.plus y).cs 2 _ rfl
 have d4:=fun y=>(hcW.plus y).cs 3 _ rfl
 have ct0:=ct 0 _ rfl
 have ct1:=ct 1 _ rfl
 have ct2:=ct 2 _ rfl
 have ct3:=ct 3 _ rfl
 have ct4:=ct 4 _ rfl
 have qh1:=Lib.hid (kp_at hzU h1'.out)
 have qh2:=Lib.hid (kp_at hzU h2'.out)
 have hz3:=Lib.hid hzU
 clear hU hB ct hz9 hzW hzU hz2' h1' h2' hc' hcW
 rw [← plus_self U]
 have hv:=hv0.out
 clear hv0
 rcases hJ with j1 | j1
 ·replace hv:=Lib.hid hv
  subst j1
  go_wp2_with (first | (go_at_call 131;with_reducible refine (qh1.out _).mono ?_;rintro r w' ⟨rfl,x,rfl⟩) | (go_at_call 130;with_reducible refine (qh2.out _).mono ?_;rintro r w' ⟨rfl,x,rfl⟩))
  go_ret
  exact ⟨congrArg (fun z=>Ending.returned (Value.int .i64 z)) hv.out,by rw [hz3.out,plus_plus];exact ⟨_,rfl⟩⟩
 ·replace hv:=Lib.hid hv
  obtain ⟨j1,rfl⟩:=j1
  go_wp2_with (first | (go_at_call 131;with_reducible refine (qh1.out _).mono ?_;rintro r w' ⟨rfl,x,rfl⟩) | (go_at_call 130;with_reducible refine (qh2.out _).mono ?_;rintro r w' ⟨rfl,x,rfl⟩))
  go_ret
  exact ⟨congrArg (fun z=>Ending.returned (Value.int .i64 z)) hv.out,by rw [hz3.out,plus_plus];exact ⟨_,rfl⟩⟩
set_option maxRecDepth 100000 in
set_option maxHeartbeats 8000000 in
theorem l_dflt_some (p0:Option Addr) (n0 c0:Nat) (p1:Option Addr) (n1 c1:Nat) (p2:Option Addr) (n2 c2:Nat) (p5:Option Addr) (n5 c5:Nat) (p6:Option Addr) (n6 c6:Nat) (pa:Addr) (n nc:Nat) (px:Addr) (nx cx:Nat) (xn:ByteArray) (kp:Option Addr) (kn kc:Nat) (lp:Option Addr) (ln lc:Nat) (dn:ByteArray) (gp:Option Addr) (gn gc:Nat) (an0:ByteArray) (ap:Option Addr) (an ac:Nat) (bp:Option Addr) (bn bc:Nat)  (skd:Int) (shd snm:ByteArray) (sop slw slh sll:Int) (sehd senm:ByteArray) (shi slo:Int) (sep:Option Addr) (sen sec:Nat) (stp:Option Addr) (stn stc:Nat) (sup:Option Addr) (sun suc:Nat) (J:Int) (v:Int) (w:World) (k:Nat) (hk:k < n) (hc:CellsAt w (pa.add (k * 5)) [.string xn,.slice kp kn kc,.slice lp ln lc,.string dn,.slice gp gn gc]) (kx:Nat) (hkx:kx < nx) (hc3:CellsAt w (px.add (kx * 3)) [.string an0,.slice ap an ac,.slice bp bn bc])
  (h1:Kp Tryz.prog w 131 #[.agg #[.slice p0 n0 c0,.slice p1 n1 c1,.slice p2 n2 c2,.slice (some px) nx cx,.slice (some pa) n nc,.slice p5 n5 c5,.slice p6 n6 c6],.string dn] (.int .i64 (kx:Int)))
  (h2:Kp Tryz.prog w 130 #[.slice lp ln lc,.string dn] (.int .i64 J)) (hJ:¬ J < 0)
  (hv:(if gn < an then (13:Int) else if an < gn then 5 else 0) = v) :
  Kp Tryz.prog w 86 #[.agg #[.slice p0 n0 c0,.slice p1 n1 c1,.slice p2 n2 c2,.slice (some px) nx cx,.slice (some pa) n nc,.slice p5 n5 c5,.slice p6 n6 c6],.agg #[.int .u8 14,.int .i64 (k:Int),.int .i64 0,.int .u8 skd,.string shd,.string snm,.int .u8 sop,.int .i64 slw,.int .u64 slh,.int .u64 sll,.string sehd,.string senm,.int .i64 shi,.int .i64 slo,.slice sep sen sec,.slice stp stn stc,.slice sup sun suc]] (.int .i64 v):=by
 intro y0
 have h1:=h1.up y0
 have h2:=h2.up y0
 have hc:=hc.plus y0
 have hc3:=hc3.plus y0
 obtain ⟨V,hV⟩:∃ V,plus w y0 = V:=⟨_,rfl⟩
 rw [hV] at h1 h2 hc hc3 ⊢
 clear hV
 have h1':=Lib.hid h1
 have h2':=Lib.hid h2
 have hc':=Lib.hid hc
 have hc3':=Lib.hid hc3
 clear h1 h2 hc hc3
 have hv0:=Lib.hid hv
 clear hv
 go_enter Tryz.func86,Tryz.ntmps86
 go_upto_region 1 with (fail)
 obtain ⟨W,yy,hW,⟨z,hz2⟩,cp,ci⟩:=box2n V _ _ 30 77
 rw [hW]
 have cp0:=cp 0 _ rfl
 have cp1:=cp 1 _ rfl
 have cp2:=cp 2 _ rfl
 have cp3:=cp 3 _ rfl
 have cp4:=cp 4 _ rfl
 have cp5:=cp 5 _ rfl
 have cp6:=cp 6 _ rfl
 have ci0:=ci 0 _ rfl
 have ci1:=ci 1 _ rfl
 have ci2:=ci 2 _ rfl
 have ci3:=ci 3 _ rfl
 have ci4:=ci 4 _ rfl
 have ci5:=ci 5 _ rfl
 have ci6:=ci 6 _ rfl
 have ci7:=ci 7 _ rfl
 have ci8:=ci 8 _ rfl
 have ci9:=ci 9 _ rfl
 have ci10:=ci 10 _ rfl
 have ci11:=ci 11 _ rfl
 have ci12:=ci 12 _ rfl
 have ci13:=ci 13 _ rfl
 have ci14:=ci 14 _ rfl
 have ci15:=ci 15 _ rfl
 have ci16:=ci 16 _ rfl
 have hcW:=cells_up hz2 hc'.out
 have d0:=fun y=>(hcW.plus y).c0 _ rfl
 have d1:=fun y=>(hcW.plus y).cs 0 _ rfl
 have d2:=fun y=>(hcW.plus y).cs 1 _ rfl
 have d3:=fun y=>(hcW.plus y).cs 2 _ rfl
 have d4:=fun y=>(hcW.plus y).cs 3 _ rfl
 have hc3W:=cells_up hz2 hc3'.out
 have x0:=fun y=>(hc3W.plus y).c0 _ rfl
 have x1:=fun y=>(hc3W.plus y).cs 0 _ rfl
 have x2:=fun y=>(hc3W.plus y).cs 1 _ rfl
 have hz2':=Lib.hid hz2
 clear hW hz2 cp ci hcW hc3W
 go_upto_region 8 with (fail)
 obtain ⟨U,hU,hB,-,ct,-⟩:=box1 (plus W yy) _ 48
 rw [← hU]
 obtain ⟨z9,hz9⟩:=plus_of_below hB
 obtain ⟨zW,hzW⟩:∃ x,U = plus W x:=by rw [hz9,plus_plus];exact ⟨_,rfl⟩
 obtain ⟨zU,hzU⟩:∃ x,U = plus V x:=by rw [hzW,hz2'.out,plus_plus];exact ⟨_,rfl⟩
 have cp0:=lift_cell hzW cp0
 have cp1:=lift_cell hzW cp1
 have cp2:=lift_cell hzW cp2
 have cp3:=lift_cell hzW cp3
 have cp4:=lift_cell hzW cp4
 have cp5:=lift_cell hzW cp5
 have cp6:=lift_cell hzW cp6
 have ci0:=lift_cell hzW ci0
 have ci1:=lift_cell hzW ci1
 have ci2:=lift_cell hzW ci2
 have ci3:=lift_cell hzW ci3
 have ci4:=lift_cell hzW ci4
 have ci5:=lift_cell hzW ci5
 have ci6:=lift_cell hzW ci6
 have ci7:=lift_cell hzW ci7
 have ci8:=lift_cell hzW ci8
 have ci9:=lift_cell hzW ci9
 have ci10:=lift_cell hzW ci10
 have ci11:=lift_cell hzW ci11
 have ci12:=lift_cell hzW ci12
 have ci13:=lift_cell hzW ci13
 have ci14:=lift_cell hzW ci14
 have ci15:=lift_cell hzW ci15
 have ci16:=lift_cell hzW ci16
 clear d0 d1 d2 d3 d4 x0 x1 x2
 have hcW:=cells_up hzU hc'.out
 have d0:=fun y=>(hcW.plus y).c0 _ rfl
 have d1:=fun y=>(hcW.plus y).cs 0 _ rfl
 have d2:=fun y=>(hcW.plus y).cs 1 _ rfl
 have d3:=fun y=>(hcW.plus y).cs 2 _ rfl
 have d4:=fun y=>(hcW.plus y).cs 3 _ rfl
 have hc3W:=cells_up hzU hc3'.out
 have x0:=fun y=>(hc3W.plus y).c0 _ rfl
 have x1:=fun y=>(hc3W.plus y).cs 0 _ rfl
 have x2:=fun y=>(hc3W.plus y).cs 1 _ rfl
 have ct0:=ct 0 _ rfl
 have ct1:=ct 1 _ rfl
 have ct2:=ct 2 _ rfl
 have ct3:=ct 3 _ rfl
 have ct4:=ct 4 _ rfl
 have qh1:=Lib.hid (kp_at hzU h1'.out)
 have qh2:=Lib.hid (kp_at hzU h2'.out)
 have hz3:=Lib.hid hzU
 clear hU hB ct hz9 hzW hzU hz2' h1' h2' hc' hc3' hcW hc3W
 rw [← plus_self U]
 have hv:=hv0.out
 clear hv0
 go_upto_region 17 with (first | (go_at_call 131;with_reducible refine (qh1.out _).mono ?_;rintro r w' ⟨rfl,x,rfl⟩) | (go_at_call 130;with_reducible refine (qh2.out _).mono ?_;rintro r w' ⟨rfl,x,rfl⟩))
 refine wp_region_own (by kernel_rfl) (by kernel_rfl) ?_
 repeat (go_big_quiet_step (first | fail))
 refine wpQuiet_nil ?_
 rintro _ ⟨y27,rfl⟩
 by_cases i1:gn < an
 ·rw [if_pos i1] at hv
  replace hv:=Lib.hid hv
  have i2:(gn:Int) < (an:Int):=by omega
  go_wp2_with (fail)
  go_ret
  exact ⟨congrArg (fun z=>Ending.returned (Value.int .i64 z)) hv.out,by rw [hz3.out,plus_plus];exact ⟨_,rfl⟩⟩
 ·rw [if_neg i1] at hv
  have i2:¬ (gn:Int) < (an:Int):=by omega
  go_upto_region 19 with (first | (go_at_call 131;with_reducible refine (qh1.out _).mono ?_;rintro r w' ⟨rfl,x,rfl⟩) | (go_at_call 130;with_reducible refine (qh2.out _).mono ?_;rintro r w' ⟨rfl,x,rfl⟩))
  refine wp_region_own (by kernel_rfl) (by kernel_rfl) ?_
  repeat (go_big_quiet_step (first | fail))
  refine wpQuiet_nil ?_
  rintro _ ⟨y29,rfl⟩
  by_cases i3:an < gn
  ·rw [if_pos i3] at hv
   replace hv:=Lib.hid hv
   have i4:(an:Int) < (gn:Int):=by omega
   go_wp2_with (fail)
   go_ret
   exact ⟨congrArg (fun z=>Ending.returned (Value.int .i64 z)) hv.out,by rw [hz3.out,plus_plus];exact ⟨_,rfl⟩⟩
  ·rw [if_neg i3] at hv
   replace hv:=Lib.hid hv
   have i4:¬ (an:Int) < (gn:Int):=by omega
   go_wp2_with (fail)
   go_ret
   exact ⟨congrArg (fun z=>Ending.returned (Value.int .i64 z)) hv.out,by rw [hz3.out,plus_plus];exact ⟨_,rfl⟩⟩
end Go.Proofs.YtlmhldcebllckaaGreat

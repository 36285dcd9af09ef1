/-
  WHAT IS PROVED HERE: a part of the proof (made narrower and merged by program; the parts: We).
-/
import Derived.Test.YtlmhldcebllckaaGreatRows
import Derived.WalkKit
import Derived.Lib.Hide
import Derived.WalkSpells
import Derived.WalkLawsBesides
import Derived.Test.YtlmhldcebllckaaGreatM20
import Derived.Test.YtlmhldcebllckaaGreatM9
namespace Go.Proofs.YtlmhldcebllckaaGreat
open Go.RowKit
set_option maxRecDepth 100000 in
set_option maxHeartbeats 8000000 in
theorem d_header (p1:Option Addr) (n1 c1:Nat) (p2:Option Addr) (n2 c2:Nat) (p3:Option Addr) (n3 c3:Nat) (p4:Option Addr) (n4 c4:Nat) (p5:Option Addr) (n5 c5:Nat) (p6:Option Addr) (n6 c6:Nat) (pa:Addr) (n nc:Nat) (xn:ByteArray) (fp:Option Addr) (fn fc:Nat)  (skd:Int) (shd snm:ByteArray) (sop slw slh sll:Int) (sehd senm:ByteArray) (shi slo:Int) (sep:Option Addr) (sen sec:Nat) (stp:Option Addr) (stn stc:Nat) (sup:Option Addr) (sun suc:Nat) (I B:Int) (v:Int) (w:World) (k:Nat) (hk:k < n) (hc:CellsAt w (pa.add (k * 2)) [.string xn,.slice fp fn fc])
  (h1:Kp Tryz.prog w 124 #[.agg #[.slice (some pa) n nc,.slice p1 n1 c1,.slice p2 n2 c2,.slice p3 n3 c3,.slice p4 n4 c4,.slice p5 n5 c5,.slice p6 n6 c6],.string xn] (.int .i64 I))
  (h2:Kp Tryz.prog w 132 #[.agg #[.string xn,.slice fp fn fc]] (.int .i64 B))
  (hv:(if I = (k:Int) then (if B.tmod 8 = 0 ∧ B ≤ 256 then (0:Int) else 10) else 8) = v) :
  Kp Tryz.prog w 87 #[.agg #[.slice (some pa) n nc,.slice p1 n1 c1,.slice p2 n2 c2,.slice p3 n3 c3,.slice p4 n4 c4,.slice p5 n5 c5,.slice p6 n6 c6],.agg #[.int .u8 1,.int .i64 (k:Int),.int .i64 0,.int .u8 skd,.string shd,.string snm,.int .u8 sop,.int .i64 slw,.int .u64 slh,.int .u64 sll,.string sehd,.string senm,.int .i64 shi,.int .i64 slo,.slice sep sen sec,.slice stp stn stc,.slice sup sun suc]] (.int .i64 v):=by
 intro y0
 have h1:=h1.up y0
 have h2:=h2.up y0
 have hc:=hc.plus y0
 obtain ⟨V,hV⟩:∃ V,plus w y0 = V:=⟨_,rfl⟩
 rw [hV] at h1 h2 hc ⊢
 clear hV
 have h1':=Lib.hid h1
 have h2':=Lib.hid h2
 have hc':=Lib.hid hc
 clear h1 h2 hc
 have hv0:=Lib.hid hv
 clear hv
 go_enter Tryz.func87,Tryz.ntmps87
 go_upto_region 1 with (fail)
 obtain ⟨W,yy,hW,⟨z,hz2⟩,cp,ci⟩:=box2n V _ _ 30 77
 rw [hW]
 have cp0:=cp 0 _ rfl
 have cp1:=cp 1 _ rfl
 have cp2:=cp 2 _ rfl
 have cp3:=cp 3 _ rfl
 have cp4:=cp 4 _ rfl
 have cp5:=cp 5 _ rfl
 have cp6:=cp 6 _ rfl
 have ci0:=ci 0 _ rfl
 have ci1:=ci 1 _ rfl
 have ci2:=ci 2 _ rfl
 have ci3:=ci 3 _ rfl
 have ci4:=ci 4 _ rfl
 have ci5:=ci 5 _ rfl
 have ci6:=ci 6 _ rfl
 have ci7:=ci 7 _ rfl
 have ci8:=ci 8 _ rfl
 have ci9:=ci 9 _ rfl
 have ci10:=ci 10 _ rfl
 have ci11:=ci 11 _ rfl
 have ci12:=ci 12 _ rfl
 have ci13:=ci 13 _ rfl
 have ci14:=ci 14 _ rfl
 have ci15:=ci 15 _ rfl
 have ci16:=ci 16 _ rfl
 have hcW:=cells_up hz2 hc'.out
 have d0:=fun y=>(hcW.plus y).c0 _ rfl
 have d1:=fun y=>(hcW.plus y).cs 0 _ rfl
 have qh1:=Lib.hid (kp_at hz2 h1'.out)
 have qh2:=Lib.hid (kp_at hz2 h2'.out)
 have hz3:=Lib.hid hz2
 clear hW hz2 cp ci h1' h2' hc' hcW
 have hv:=hv0.out
 clear hv0
 go_upto_region 4 with (fail)
 refine wp_region_own (by kernel_rfl) (by kernel_rfl) ?_
 repeat (go_big_quiet_step (first | (with_reducible exact qh1.out _)))
 refine wpQuiet_nil ?_
 rintro _ ⟨y14,rfl⟩
 by_cases i1:I = (k:Int)
 ·rw [if_pos i1] at hv
  subst i1
  by_cases b1:B.tmod 8 = 0
  ·by_cases b2:B ≤ 256
   ·rw [if_pos ⟨b1,b2⟩] at hv
    replace hv:=Lib.hid hv
    go_wp2_with (first | (go_at_call 132;with_reducible refine (qh2.out _).mono ?_;rintro r w' ⟨rfl,x,rfl⟩))
    go_ret
    exact ⟨congrArg (fun z=>Ending.returned (Value.int .i64 z)) hv.out,by rw [hz3.out,plus_plus];exact ⟨_,rfl⟩⟩
   ·rw [if_neg (fun h=>b2 h.2)] at hv
    replace hv:=Lib.hid hv
    have b3:256 < B:=by omega
    clear b2
    go_wp2_with (first | (go_at_call 132;with_reducible refine (qh2.out _).mono ?_;rintro r w' ⟨rfl,x,rfl⟩))
    go_ret
    exact ⟨congrArg (fun z=>Ending.returned (Value.int .i64 z)) hv.out,by rw [hz3.out,plus_plus];exact ⟨_,rfl⟩⟩
  ·rw [if_neg (fun h=>b1 h.1)] at hv
   replace hv:=Lib.hid hv
   go_wp2_with (first | (go_at_call 132;with_reducible refine (qh2.out _).mono ?_;rintro r w' ⟨rfl,x,rfl⟩))
   go_ret
   exact ⟨congrArg (fun z=>Ending.returned (Value.int .i64 z)) hv.out,by rw [hz3.out,plus_plus];exact ⟨_,rfl⟩⟩
 ·rw [if_neg i1] at hv
  replace hv:=Lib.hid hv
  have i2:(I == (k:Int)) = false:=by simpa using i1
  clear i1
  go_wp2_with (fail)
  go_ret
  exact ⟨congrArg (fun z=>Ending.returned (Value.int .i64 z)) hv.out,by rw [hz3.out,plus_plus];exact ⟨_,rfl⟩⟩
set_option maxRecDepth 100000 in
set_option maxHeartbeats 8000000 in
theorem d_meta (p0:Option Addr) (n0 c0:Nat) (p2:Option Addr) (n2 c2:Nat) (p3:Option Addr) (n3 c3:Nat) (p4:Option Addr) (n4 c4:Nat) (p5:Option Addr) (n5 c5:Nat) (p6:Option Addr) (n6 c6:Nat) (pa:Addr) (n nc:Nat) (yn:ByteArray) (yw:Int)  (skd:Int) (shd snm:ByteArray) (sop slw slh sll:Int) (sehd senm:ByteArray) (shi slo:Int) (sep:Option Addr) (sen sec:Nat) (stp:Option Addr) (stn stc:Nat) (sup:Option Addr) (sun suc:Nat) (I:Int) (v:Int) (w:World) (k:Nat) (hk:k < n) (hc:CellsAt w (pa.add (k * 2)) [.string yn,.int .i64 yw])
  (h1:Kp Tryz.prog w 127 #[.agg #[.slice p0 n0 c0,.slice (some pa) n nc,.slice p2 n2 c2,.slice p3 n3 c3,.slice p4 n4 c4,.slice p5 n5 c5,.slice p6 n6 c6],.string yn] (.int .i64 I))
  (hv:(if I = (k:Int) then (0:Int) else 8) = v) :
  Kp Tryz.prog w 87 #[.agg #[.slice p0 n0 c0,.slice (some pa) n nc,.slice p2 n2 c2,.slice p3 n3 c3,.slice p4 n4 c4,.slice p5 n5 c5,.slice p6 n6 c6],.agg #[.int .u8 3,.int .i64 (k:Int),.int .i64 0,.int .u8 skd,.string shd,.string snm,.int .u8 sop,.int .i64 slw,.int .u64 slh,.int .u64 sll,.string sehd,.string senm,.int .i64 shi,.int .i64 slo,.slice sep sen sec,.slice stp stn stc,.slice sup sun suc]] (.int .i64 v):=by
 intro y0
 have h1:=h1.up y0
 have hc:=hc.plus y0
 obtain ⟨V,hV⟩:∃ V,plus w y0 = V:=⟨_,rfl⟩
 rw [hV] at h1 hc ⊢
 clear hV
 have h1':=Lib.hid h1
 have hc':=Lib.hid hc
 clear h1 hc
 have hv0:=Lib.hid hv
 clear hv
 go_enter Tryz.func87,Tryz.ntmps87
 go_upto_region 1 with (fail)
 obtain ⟨W,yy,hW,⟨z,hz2⟩,cp,ci⟩:=box2n V _ _ 30 77
 rw [hW]
 have cp0:=cp 0 _ rfl
 have cp1:=cp 1 _ rfl
 have cp2:=cp 2 _ rfl
 have cp3:=cp 3 _ rfl
 have cp4:=cp 4 _ rfl
 have cp5:=cp 5 _ rfl
 have cp6:=cp 6 _ rfl
 have ci0:=ci 0 _ rfl
 have ci1:=ci 1 _ rfl
 have ci2:=ci 2 _ rfl
 have ci3:=ci 3 _ rfl
 have ci4:=ci 4 _ rfl
 have ci5:=ci 5 _ rfl
 have ci6:=ci 6 _ rfl
 have ci7:=ci 7 _ rfl
 have ci8:=ci 8 _ rfl
 have ci9:=ci 9 _ rfl
 have ci10:=ci 10 _ rfl
 have ci11:=ci 11 _ rfl
 have ci12:=ci 12 _ rfl
 have ci13:=ci 13 _ rfl
 have ci14:=ci 14 _ rfl
 have ci15:=ci 15 _ rfl
 have ci16:=ci 16 _ rfl
 have hcW:=cells_up hz2 hc'.out
 have d0:=fun y=>(hcW.plus y).c0 _ rfl
 have d1:=fun y=>(hcW.plus y).cs 0 _ rfl
 have qh1:=Lib.hid (kp_at hz2 h1'.out)
 have hz3:=Lib.hid hz2
 clear hW hz2 cp ci h1' hc' hcW
 have hv:=hv0.out
 clear hv0
 go_upto_region 6 with (fail)
 refine wp_region_own (by kernel_rfl) (by kernel_rfl) ?_
 repeat (go_big_quiet_step (first | (with_reducible exact qh1.out _)))
 refine wpQuiet_nil ?_
 rintro _ ⟨y16,rfl⟩
 by_cases i1:I = (k:Int)
 ·rw [if_pos i1] at hv
  subst i1
  replace hv:=Lib.hid hv
  go_wp2_with (fail)
  go_ret
  exact ⟨congrArg (fun z=>Ending.returned (Value.int .i64 z)) hv.out,by rw [hz3.out,plus_plus];exact ⟨_,rfl⟩⟩
 ·rw [if_neg i1] at hv
  have i2:(I == (k:Int)) = false:=by simpa using i1
  clear i1
  replace hv:=Lib.hid hv
  go_wp2_with (fail)
  go_ret
  exact ⟨congrArg (fun z=>Ending.returned (Value.int .i64 z)) hv.out,by rw [hz3.out,plus_plus];exact ⟨_,rfl⟩⟩
set_option maxRecDepth 100000 in
set_option maxHeartbeats 8000000 in
theorem d_state (p0:Option Addr) (n0 c0:Nat) (p1:Option Addr) (n1 c1:Nat) (p3:Option Addr) (n3 c3:Nat) (p4:Option Addr) (n4 c4:Nat) (p5:Option Addr) (n5 c5:Nat) (p6:Option Addr) (n6 c6:Nat) (pa:Addr) (n nc:Nat) (xn:ByteArray) (tp:Option Addr) (tn tc:Nat) (xt:ByteArray) (kp:Option Addr) (kn kc:Nat) (cp:Option Addr) (cn cc:Nat)  (skd:Int) (shd snm:ByteArray) (sop slw slh sll:Int) (sehd senm:ByteArray) (shi slo:Int) (sep:Option Addr) (sen sec:Nat) (stp:Option Addr) (stn stc:Nat) (sup:Option Addr) (sun suc:Nat) (I:Int) (bI:Bool) (v:Int) (w:World) (k:Nat) (hk:k < n) (hc:CellsAt w (pa.add (k * 5)) [.string xn,.slice tp tn tc,.string xt,.slice kp kn kc,.slice cp cn cc])
  (h1:Kp Tryz.prog w 125 #[.agg #[.slice p0 n0 c0,.slice p1 n1 c1,.slice (some pa) n nc,.slice p3 n3 c3,.slice p4 n4 c4,.slice p5 n5 c5,.slice p6 n6 c6],.string xn] (.tuple #[.int .i64 I,.bool bI]))
  (hv:(if I = (k:Int) then (0:Int) else 8) = v) :
  Kp Tryz.prog w 87 #[.agg #[.slice p0 n0 c0,.slice p1 n1 c1,.slice (some pa) n nc,.slice p3 n3 c3,.slice p4 n4 c4,.slice p5 n5 c5,.slice p6 n6 c6],.agg #[.int .u8 4,.int .i64 (k:Int),.int .i64 0,.int .u8 skd,.string shd,.string snm,.int .u8 sop,.int .i64 slw,.int .u64 slh,.int .u64 sll,.string sehd,.string senm,.int .i64 shi,.int .i64 slo,.slice sep sen sec,.slice stp stn stc,.slice sup sun suc]] (.int .i64 v):=by
 intro y0
 have h1:=h1.up y0
 have hc:=hc.plus y0
 obtain ⟨V,hV⟩:∃ V,plus w y0 = V:=⟨_,rfl⟩
 rw [hV] at h1 hc ⊢
 clear hV
 have h1':=Lib.hid h1
 have hc':=Lib.hid hc
 clear h1 hc
 have hv0:=Lib.hid hv
 clear hv
 go_enter Tryz.func87,Tryz.ntmps87
 go_upto_region 1 with (fail)
 obtain ⟨W,yy,hW,⟨z,hz2⟩,cp,ci⟩:=box2n V _ _ 30 77
 rw [hW]
 have cp0:=cp 0 _ rfl
 have cp1:=cp 1 _ rfl
 have cp2:=cp 2 _ rfl
 have cp3:=cp 3 _ rfl
 have cp4:=cp 4 _ rfl
 have cp5:=cp 5 _ rfl
 have cp6:=cp 6 _ rfl
 have ci0:=ci 0 _ rfl
 have ci1:=ci 1 _ rfl
 have ci2:=ci 2 _ rfl
 have ci3:=ci 3 _ rfl
 have ci4:=ci 4 _ rfl
 have ci5:=ci 5 _ rfl
 have ci6:=ci 6 _ rfl
 have ci7:=ci 7 _ rfl
 have ci8:=ci 8 _ rfl
 have ci9:=ci 9 _ rfl
 have ci10:=ci 10 _ rfl
 have ci11:=ci 11 _ rfl
 have ci12:=ci 12 _ rfl
 have ci13:=ci 13 _ rfl
 have ci14:=ci 14 _ rfl
 have ci15:=ci 15 _ rfl
 have ci16:=ci 16 _ rfl
 have hcW:=cells_up hz2 hc'.out
 have d0:=fun y=>(hcW.plus y).c0 _ rfl
 have d1:=fun y=>(hcW.plus y).cs 0 _ rfl
 have d2:=fun y=>(hcW.plus y).cs 1 _ rfl
 have d3:=fun y=>(hcW.plus y).cs 2 _ rfl
 have d4:=fun y=>(hcW.plus y).cs 3 _ rfl
 have qh1:=Lib.hid (kp_at hz2 h1'.out)
 have hz3:=Lib.hid hz2
 clear hW hz2 cp ci h1' hc' hcW
 have hv:=hv0.out
 clear hv0
 go_upto_region 8 with (fail)
 refine wp_region_own (by kernel_rfl) (by kernel_rfl) ?_
 repeat (go_big_quiet_step (first | (with_reducible exact qh1.out _)))
 refine wpQuiet_nil ?_
 rintro _ ⟨y18,rfl⟩
 by_cases i1:I = (k:Int)
 ·rw [if_pos i1] at hv
  subst i1
  replace hv:=Lib.hid hv
  go_wp2_with (fail)
  go_ret
  exact ⟨congrArg (fun z=>Ending.returned (Value.int .i64 z)) hv.out,by rw [hz3.out,plus_plus];exact ⟨_,rfl⟩⟩
 ·rw [if_neg i1] at hv
  have i2:(I == (k:Int)) = false:=by simpa using i1
  clear i1
  replace hv:=Lib.hid hv
  go_wp2_with (fail)
  go_ret
  exact ⟨congrArg (fun z=>Ending.returned (Value.int .i64 z)) hv.out,by rw [hz3.out,plus_plus];exact ⟨_,rfl⟩⟩
set_option maxRecDepth 100000 in
set_option maxHeartbeats 8000000 in
theorem d_action (p0:Option Addr) (n0 c0:Nat) (p1:Option Addr) (n1 c1:Nat) (p2:Option Addr) (n2 c2:Nat) (p4:Option Addr) (n4 c4:Nat) (p5:Option Addr) (n5 c5:Nat) (p6:Option Addr) (n6 c6:Nat) (pa:Addr) (n nc:Nat) (xn:ByteArray) (ap:Option Addr) (an ac:Nat) (bp:Option Addr) (bn bc:Nat)  (skd:Int) (shd snm:ByteArray) (sop slw slh sll:Int) (sehd senm:ByteArray) (shi slo:Int) (sep:Option Addr) (sen sec:Nat) (stp:Option Addr) (stn stc:Nat) (sup:Option Addr) (sun suc:Nat) (I:Int) (v:Int) (w:World) (k:Nat) (hk:k < n) (hc:CellsAt w (pa.add (k * 3)) [.string xn,.slice ap an ac,.slice bp bn bc])
  (h1:Kp Tryz.prog w 131 #[.agg #[.slice p0 n0 c0,.slice p1 n1 c1,.slice p2 n2 c2,.slice (some pa) n nc,.slice p4 n4 c4,.slice p5 n5 c5,.slice p6 n6 c6],.string xn] (.int .i64 I))
  (hv:(if I = (k:Int) then (0:Int) else 8) = v) :
  Kp Tryz.prog w 87 #[.agg #[.slice p0 n0 c0,.slice p1 n1 c1,.slice p2 n2 c2,.slice (some pa) n nc,.slice p4 n4 c4,.slice p5 n5 c5,.slice p6 n6 c6],.agg #[.int .u8 8,.int .i64 (k:Int),.int .i64 0,.int .u8 skd,.string shd,.string snm,.int .u8 sop,.int .i64 slw,.int .u64 slh,.int .u64 sll,.string sehd,.string senm,.int .i64 shi,.int .i64 slo,.slice sep sen sec,.slice stp stn stc,.slice sup sun suc]] (.int .i64 v):=by
 intro y0
 have h1:=h1.up y0
 have hc:=hc.plus y0
 obtain ⟨V,hV⟩:∃ V,plus w y0 = V:=⟨_,rfl⟩
 rw [hV] at h1 hc ⊢
 clear hV
 have h1':=Lib.hid h1
 have hc':=Lib.hid hc
 clear h1 hc
 have hv0:=Lib.hid hv
 clear hv
 go_enter Tryz.func87,Tryz.ntmps87
 go_upto_region 1 with (fail)
 obtain ⟨W,yy,hW,⟨z,hz2⟩,cp,ci⟩:=box2n V _ _ 30 77
 rw [hW]
 have cp0:=cp 0 _ rfl
 have cp1:=cp 1 _ rfl
 have cp2:=cp 2 _ rfl
 have cp3:=cp 3 _ rfl
 have cp4:=cp 4 _ rfl
 have cp5:=cp 5 _ rfl
 have cp6:=cp 6 _ rfl
 have ci0:=ci 0 _ rfl
 have ci1:=ci 1 _ rfl
 have ci2:=ci 2 _ rfl
 have ci3:=ci 3 _ rfl
 have ci4:=ci 4 _ rfl
 have ci5:=ci 5 _ rfl
 have ci6:=ci 6 _ rfl
 have ci7:=ci 7 _ rfl
 have ci8:=ci 8 _ rfl
 have ci9:=ci 9 _ rfl
 have ci10:=ci 10 _ rfl
 have ci11:=ci 11 _ rfl
 have ci12:=ci 12 _ rfl
 have ci13:=ci 13 _ rfl
 have ci14:=ci 14 _ rfl
 have ci15:=ci 15 _ rfl
 have ci16:=ci 16 _ rfl
 have hcW:=cells_up hz2 hc'.out
 have d0:=fun y=>(hcW.plus y).c0 _ rfl
 have d1:=fun y=>(hcW.plus y).cs 0 _ rfl
 have d2:=fun y=>(hcW.plus y).cs 1 _ rfl
 have qh1:=Lib.hid (kp_at hz2 h1'.out)
 have hz3:=Lib.hid hz2
 clear hW hz2 cp ci h1' hc' hcW
 have hv:=hv0.out
 clear hv0
 go_upto_region 11 with (fail)
 refine wp_region_own (by kernel_rfl) (by kernel_rfl) ?_
 repeat (go_big_quiet_step (first | (with_reducible exact qh1.out _)))
 refine wpQuiet_nil ?_
 rintro _ ⟨y21,rfl⟩
 by_cases i1:I = (k:Int)
 ·rw [if_pos i1] at hv
  subst i1
  replace hv:=Lib.hid hv
  go_wp2_with (fail)
  go_ret
  exact ⟨congrArg (fun z=>Ending.returned (Value.int .i64 z)) hv.out,by rw [hz3.out,plus_plus];exact ⟨_,rfl⟩⟩
 ·rw [if_neg i1] at hv
  have i2:(I == (k:Int)) = false:=by simpa using i1
  clear i1
  replace hv:=Lib.hid hv
  go_wp2_with (fail)
  go_ret
  exact ⟨congrArg (fun z=>Ending.returned (Value.int .i64 z)) hv.out,by rw [hz3.out,plus_plus];exact ⟨_,rfl⟩⟩
set_option maxRecDepth 100000 in
set_option maxHeartbeats 8000000 in
theorem d_table (p0:Option Addr) (n0 c0:Nat) (p1:Option Addr) (n1 c1:Nat) (p2:Option Addr) (n2 c2:Nat) (p3:Option Addr) (n3 c3:Nat) (p5:Option Addr) (n5 c5:Nat) (p6:Option Addr) (n6 c6:Nat) (pa:Addr) (n nc:Nat) (xn:ByteArray) (kp:Option Addr) (kn kc:Nat) (lp:Option Addr) (ln lc:Nat) (dn:ByteArray) (gp:Option Addr) (gn gc:Nat)  (skd:Int) (shd snm:ByteArray) (sop slw slh sll:Int) (sehd senm:ByteArray) (shi slo:Int) (sep:Option Addr) (sen sec:Nat) (stp:Option Addr) (stn stc:Nat) (sup:Option Addr) (sun suc:Nat) (I:Int) (v:Int) (w:World) (k:Nat) (hk:k < n) (hc:CellsAt w (pa.add (k * 5)) [.string xn,.slice kp kn kc,.slice lp ln lc,.string dn,.slice gp gn gc])
  (h1:Kp Tryz.prog w 129 #[.agg #[.slice p0 n0 c0,.slice p1 n1 c1,.slice p2 n2 c2,.slice p3 n3 c3,.slice (some pa) n nc,.slice p5 n5 c5,.slice p6 n6 c6],.string xn] (.int .i64 I))
  (hv:(if I = (k:Int) then (0:Int) else 8) = v) :
  Kp Tryz.prog w 87 #[.agg #[.slice p0 n0 c0,.slice p1 n1 c1,.slice p2 n2 c2,.slice p3 n3 c3,.slice (some pa) n nc,.slice p5 n5 c5,.slice p6 n6 c6],.agg #[.int .u8 11,.int .i64 (k:Int),.int .i64 0,.int .u8 skd,.string shd,.string snm,.int .u8 sop,.int .i64 slw,.int .u64 slh,.int .u64 sll,.string sehd,.string senm,.int .i64 shi,.int .i64 slo,.slice sep sen sec,.slice stp stn stc,.slice sup sun suc]] (.int .i64 v):=by
 intro y0
 have h1:=h1.up y0
 have hc:=hc.plus y0
 obtain ⟨V,hV⟩:∃ V,plus w y0 = V:=⟨_,rfl⟩
 rw [hV] at h1 hc ⊢
 clear hV
 have h1':=Lib.hid h1
 have hc':=Lib.hid hc
 clear h1 hc
 have hv0:=Lib.hid hv
 clear hv
 go_enter Tryz.func87,Tryz.ntmps87
 go_upto_region 1 with (fail)
 obtain ⟨W,yy,hW,⟨z,hz2⟩,cp,ci⟩:=box2n V _ _ 30 77
 rw [hW]
 have cp0:=cp 0 _ rfl
 have cp1:=cp 1 _ rfl
 have cp2:=cp 2 _ rfl
 have cp3:=cp 3 _ rfl
 have cp4:=cp 4 _ rfl
 have cp5:=cp 5 _ rfl
 have cp6:=cp 6 _ rfl
 have ci0:=ci 0 _ rfl
 have ci1:=ci 1 _ rfl
 have ci2:=ci 2 _ rfl
 have ci3:=ci 3 _ rfl
 have ci4:=ci 4 _ rfl
 have ci5:=ci 5 _ rfl
 have ci6:=ci 6 _ rfl
 have ci7:=ci 7 _ rfl
 have ci8:=ci 8 _ rfl
 have ci9:=ci 9 _ rfl
 have ci10:=ci 10 _ rfl
 have ci11:=ci 11 _ rfl
 have ci12:=ci 12 _ rfl
 have ci13:=ci 13 _ rfl
 have ci14:=ci 14 _ rfl
 have ci15:=ci 15 _ rfl
 have ci16:=ci 16 _ rfl
 have hcW:=cells_up hz2 hc'.out
 have d0:=fun y=>(hcW.plus y).c0 _ rfl
 have d1:=fun y=>(hcW.plus y).cs 0 _ rfl
 have d2:=fun y=>(hcW.plus y).cs 1 _ rfl
 have d3:=fun y=>(hcW.plus y).cs 2 _ rfl
 have d4:=fun y=>(hcW.plus y).cs 3 _ rfl
 have qh1:=Lib.hid (kp_at hz2 h1'.out)
 have hz3:=Lib.hid hz2
 clear hW hz2 cp ci h1' hc' hcW
 have hv:=hv0.out
 clear hv0
 go_upto_region 13 with (fail)
 refine wp_region_own (by kernel_rfl) (by kernel_rfl) ?_
 repeat (go_big_quiet_step (first | (with_reducible exact qh1.out _)))
 refine wpQuiet_nil ?_
 rintro _ ⟨y23,rfl⟩
 by_cases i1:I = (k:Int)
 ·rw [if_pos i1] at hv
  subst i1
  replace hv:=Lib.hid hv
  go_wp2_with (fail)
  go_ret
  exact ⟨congrArg (fun z=>Ending.returned (Value.int .i64 z)) hv.out,by rw [hz3.out,plus_plus];exact ⟨_,rfl⟩⟩
 ·rw [if_neg i1] at hv
  have i2:(I == (k:Int)) = false:=by simpa using i1
  clear i1
  replace hv:=Lib.hid hv
  go_wp2_with (fail)
  go_ret
  exact ⟨congrArg (fun z=>Ending.returned (Value.int .i64 z)) hv.out,by rw [hz3.out,plus_plus];exact ⟨_,rfl⟩⟩
set_option maxRecDepth 100000 in
set_option maxHeartbeats 8000000 in
theorem d_field (p1:Option Addr) (n1 c1:Nat) (p2:Option Addr) (n2 c2:Nat) (p3:Option Addr) (n3 c3:Nat) (p4:Option Addr) (n4 c4:Nat) (p5:Option Addr) (n5 c5:Nat) (p6:Option Addr) (n6 c6:Nat) (pa:Addr) (n nc:Nat) (xn:ByteArray) (pb:Addr) (m mc:Nat) (yn:ByteArray) (yw:Int)  (skd:Int) (shd snm:ByteArray) (sop slw slh sll:Int) (sehd senm:ByteArray) (shi slo:Int) (sep:Option Addr) (sen sec:Nat) (stp:Option Addr) (stn stc:Nat) (sup:Option Addr) (sun suc:Nat) (I:Int) (v:Int) (w:World) (k:Nat) (hk:k < n) (hc:CellsAt w (pa.add (k * 2)) [.string xn,.slice (some pb) m mc]) (j:Nat) (hj:j < m) (hc2:CellsAt w (pb.add (j * 2)) [.string yn,.int .i64 yw])
  (h1:Kp Tryz.prog w 126 #[.agg #[.slice (some pa) n nc,.slice p1 n1 c1,.slice p2 n2 c2,.slice p3 n3 c3,.slice p4 n4 c4,.slice p5 n5 c5,.slice p6 n6 c6],.int .i64 (k:Int),.string yn] (.int .i64 I))
  (hv:(if I = (j:Int) then (0:Int) else 8) = v) :
  Kp Tryz.prog w 87 #[.agg #[.slice (some pa) n nc,.slice p1 n1 c1,.slice p2 n2 c2,.slice p3 n3 c3,.slice p4 n4 c4,.slice p5 n5 c5,.slice p6 n6 c6],.agg #[.int .u8 2,.int .i64 (k:Int),.int .i64 (j:Int),.int .u8 skd,.string shd,.string snm,.int .u8 sop,.int .i64 slw,.int .u64 slh,.int .u64 sll,.string sehd,.string senm,.int .i64 shi,.int .i64 slo,.slice sep sen sec,.slice stp stn stc,.slice sup sun suc]] (.int .i64 v):=by
 intro y0
 have h1:=h1.up y0
 have hc:=hc.plus y0
 have hc2:=hc2.plus y0
 obtain ⟨V,hV⟩:∃ V,plus w y0 = V:=⟨_,rfl⟩
 rw [hV] at h1 hc hc2 ⊢
 clear hV
 have h1':=Lib.hid h1
 have hc':=Lib.hid hc
 have hc2':=Lib.hid hc2
 clear h1 hc hc2
 have hv0:=Lib.hid hv
 clear hv
 go_enter Tryz.func87,Tryz.ntmps87
 go_upto_region 1 with (fail)
 obtain ⟨W,yy,hW,⟨z,hz2⟩,cp,ci⟩:=box2n V _ _ 30 77
 rw [hW]
 have cp0:=cp 0 _ rfl
 have cp1:=cp 1 _ rfl
 have cp2:=cp 2 _ rfl
 have cp3:=cp 3 _ rfl
 have cp4:=cp 4 _ rfl
 have cp5:=cp 5 _ rfl
 have cp6:=cp 6 _ rfl
 have ci0:=ci 0 _ rfl
 have ci1:=ci 1 _ rfl
 have ci2:=ci 2 _ rfl
 have ci3:=ci 3 _ rfl
 have ci4:=ci 4 _ rfl
 have ci5:=ci 5 _ rfl
 have ci6:=ci 6 _ rfl
 have ci7:=ci 7 _ rfl
 have ci8:=ci 8 _ rfl
 have ci9:=ci 9 _ rfl
 have ci10:=ci 10 _ rfl
 have ci11:=ci 11 _ rfl
 have ci12:=ci 12 _ rfl
 have ci13:=ci 13 _ rfl
 have ci14:=ci 14 _ rfl
 have ci15:=ci 15 _ rfl
 have ci16:=ci 16 _ rfl
 have hcW:=cells_up hz2 hc'.out
 have d0:=fun y=>(hcW.plus y).c0 _ rfl
 have d1:=fun y=>(hcW.plus y).cs 0 _ rfl
 have hc2W:=cells_up hz2 hc2'.out
 have e0:=fun y=>(hc2W.plus y).c0 _ rfl
 have e1:=fun y=>(hc2W.plus y).cs 0 _ rfl
 have qh1:=Lib.hid (kp_at hz2 h1'.out)
 have hz3:=Lib.hid hz2
 clear hW hz2 cp ci h1' hc' hc2' hcW hc2W
 have hv:=hv0.out
 clear hv0
 go_upto_region 15 with (fail)
 refine wp_region_own (by kernel_rfl) (by kernel_rfl) ?_
 repeat (go_big_quiet_step (first | (with_reducible exact qh1.out _)))
 refine wpQuiet_nil ?_
 rintro _ ⟨y25,rfl⟩
 by_cases i1:I = (j:Int)
 ·rw [if_pos i1] at hv
  subst i1
  replace hv:=Lib.hid hv
  go_wp2_with (fail)
  go_ret
  exact ⟨congrArg (fun z=>Ending.returned (Value.int .i64 z)) hv.out,by rw [hz3.out,plus_plus];exact ⟨_,rfl⟩⟩
 ·rw [if_neg i1] at hv
  have i2:(I == (j:Int)) = false:=by simpa using i1
  clear i1
  replace hv:=Lib.hid hv
  go_wp2_with (fail)
  go_ret
  exact ⟨congrArg (fun z=>Ending.returned (Value.int .i64 z)) hv.out,by rw [hz3.out,plus_plus];exact ⟨_,rfl⟩⟩
set_option maxRecDepth 100000 in
set_option maxHeartbeats 8000000 in
theorem d_param (p0:Option Addr) (n0 c0:Nat) (p1:Option Addr) (n1 c1:Nat) (p2:Option Addr) (n2 c2:Nat) (p4:Option Addr) (n4 c4:Nat) (p5:Option Addr) (n5 c5:Nat) (p6:Option Addr) (n6 c6:Nat) (pa:Addr) (n nc:Nat) (xn:ByteArray) (pb:Addr) (m mc:Nat) (bp:Option Addr) (bn bc:Nat) (yn:ByteArray) (yw:Int)  (skd:Int) (shd snm:ByteArray) (sop slw slh sll:Int) (sehd senm:ByteArray) (shi slo:Int) (sep:Option Addr) (sen sec:Nat) (stp:Option Addr) (stn stc:Nat) (sup:Option Addr) (sun suc:Nat) (I:Int) (v:Int) (w:World) (k:Nat) (hk:k < n) (hc:CellsAt w (pa.add (k * 3)) [.string xn,.slice (some pb) m mc,.slice bp bn bc]) (j:Nat) (hj:j < m) (hc2:CellsAt w (pb.add (j * 2)) [.string yn,.int .i64 yw])
  (h1:Kp Tryz.prog w 128 #[.agg #[.slice p0 n0 c0,.slice p1 n1 c1,.slice p2 n2 c2,.slice (some pa) n nc,.slice p4 n4 c4,.slice p5 n5 c5,.slice p6 n6 c6],.int .i64 (k:Int),.string yn] (.int .i64 I))
  (hv:(if I = (j:Int) then (0:Int) else 8) = v) :
  Kp Tryz.prog w 87 #[.agg #[.slice p0 n0 c0,.slice p1 n1 c1,.slice p2 n2 c2,.slice (some pa) n nc,.slice p4 n4 c4,.slice p5 n5 c5,.slice p6 n6 c6],.agg #[.int .u8 9,.int .i64 (k:Int),.int .i64 (j:Int),.int .u8 skd,.string shd,.string snm,.int .u8 sop,.int .i64 slw,.int .u64 slh,.int .u64 sll,.string sehd,.string senm,.int .i64 shi,.int .i64 slo,.slice sep sen sec,.slice stp stn stc,.slice sup sun suc]] (.int .i64 v):=by
 intro y0
 have h1:=h1.up y0
 have hc:=hc.plus y0
 have hc2:=hc2.plus y0
 obtain ⟨V,hV⟩:∃ V,plus w y0 = V:=⟨_,rfl⟩
 rw [hV] at h1 hc hc2 ⊢
 clear hV
 have h1':=Lib.hid h1
 have hc':=Lib.hid hc
 have hc2':=Lib.hid hc2
 clear h1 hc hc2
 have hv0:=Lib.hid hv
 clear hv
 go_enter Tryz.func87,Tryz.ntmps87
 go_upto_region 1 with (fail)
 obtain ⟨W,yy,hW,⟨z,hz2⟩,cp,ci⟩:=box2n V _ _ 30 77
 rw [hW]
 have cp0:=cp 0 _ rfl
 have cp1:=cp 1 _ rfl
 have cp2:=cp 2 _ rfl
 have cp3:=cp 3 _ rfl
 have cp4:=cp 4 _ rfl
 have cp5:=cp 5 _ rfl
 have cp6:=cp 6 _ rfl
 have ci0:=ci 0 _ rfl
 have ci1:=ci 1 _ rfl
 have ci2:=ci 2 _ rfl
 have ci3:=ci 3 _ rfl
 have ci4:=ci 4 _ rfl
 have ci5:=ci 5 _ rfl
 have ci6:=ci 6 _ rfl
 have ci7:=ci 7 _ rfl
 have ci8:=ci 8 _ rfl
 have ci9:=ci 9 _ rfl
 have ci10:=ci 10 _ rfl
 have ci11:=ci 11 _ rfl
 have ci12:=ci 12 _ rfl
 have ci13:=ci 13 _ rfl
 have ci14:=ci 14 _ rfl
 have ci15:=ci 15 _ rfl
 have ci16:=ci 16 _ rfl
 have hcW:=cells_up hz2 hc'.out
 have d0:=fun y=>(hcW.plus y).c0 _ rfl
 have d1:=fun y=>(hcW.plus y).cs 0 _ rfl
 have d2:=fun y=>(hcW.plus y).cs 1 _ rfl
 have hc2W:=cells_up hz2 hc2'.out
 have e0:=fun y=>(hc2W.plus y).c0 _ rfl
 have e1:=fun y=>(hc2W.plus y).cs 0 _ rfl
 have qh1:=Lib.hid (kp_at hz2 h1'.out)
 have hz3:=Lib.hid hz2
 clear hW hz2 cp ci h1' hc' hc2' hcW hc2W
 have hv:=hv0.out
 clear hv0
 go_upto_region 18 with (fail)
 refine wp_region_own (by kernel_rfl) (by kernel_rfl) ?_
 repeat (go_big_quiet_step (first | (with_reducible exact qh1.out _)))
 refine wpQuiet_nil ?_
 rintro _ ⟨y28,rfl⟩
 by_cases i1:I = (j:Int)
 ·rw [if_pos i1] at hv
  subst i1
  replace hv:=Lib.hid hv
  go_wp2_with (fail)
  go_ret
  exact ⟨congrArg (fun z=>Ending.returned (Value.int .i64 z)) hv.out,by rw [hz3.out,plus_plus];exact ⟨_,rfl⟩⟩
 ·rw [if_neg i1] at hv
  have i2:(I == (j:Int)) = false:=by simpa using i1
  clear i1
  replace hv:=Lib.hid hv
  go_wp2_with (fail)
  go_ret
  exact ⟨congrArg (fun z=>Ending.returned (Value.int .i64 z)) hv.out,by rw [hz3.out,plus_plus];exact ⟨_,rfl⟩⟩
end Go.Proofs.YtlmhldcebllckaaGreat

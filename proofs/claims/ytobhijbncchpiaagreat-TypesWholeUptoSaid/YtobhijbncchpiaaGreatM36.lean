/-
  WHAT IS PROVED HERE: a part of the proof (made narrower and merged by program; the parts: Dh Zv).
-/
import Derived.Test.YtobhijbncchpiaaGreatM35
import Derived.Test.YtobhijbncchpiaaGreatM32
namespace Go.Proofs.YtobhijbncchpiaaGreat
open Go.RowKit
set_option maxRecDepth 100000 in
set_option maxHeartbeats 16000000 in
theorem goes_no (p0:Option Addr) (n0 c0:Nat) (p1:Option Addr) (n1 c1:Nat) (p2:Option Addr) (n2 c2:Nat) (p3:Option Addr) (n3 c3:Nat) (p4:Option Addr) (n4 c4:Nat) (p5:Option Addr) (n5 c5:Nat) (p6:Option Addr) (n6 c6:Nat) (act:Int) (op lw lh ll:Int) (hd nm:ByteArray) (eh el:Int) (ep:Option Addr) (en ec:Nat) (k r:Int) (w:World)
  (kt:KpE Tryz.prog w 28 #[.agg #[.slice p0 n0 c0,.slice p1 n1 c1,.slice p2 n2 c2,.slice p3 n3 c3,.slice p4 n4 c4,.slice p5 n5 c5,.slice p6 n6 c6,.int .i64 act],.agg #[.int .u8 op,.int .i64 lw,.int .u64 lh,.int .u64 ll,.string hd,.string nm,.int .i64 eh,.int .i64 el,.slice ep en ec]] (gaveE r)) :
  KpE Tryz.prog w 100 #[.agg #[.slice p0 n0 c0,.slice p1 n1 c1,.slice p2 n2 c2,.slice p3 n3 c3,.slice p4 n4 c4,.slice p5 n5 c5,.slice p6 n6 c6,.int .i64 act],.agg #[.int .u8 op,.int .i64 lw,.int .u64 lh,.int .u64 ll,.string hd,.string nm,.int .i64 eh,.int .i64 el,.slice ep en ec],.int .i64 k] (gaveE r):=by
 intro y0
 have kt:=kt.up y0
 obtain⟨V,hV⟩:∃ V,plus w y0=V:=⟨_,rfl⟩
 rw [hV] at kt ⊢
 clear hV
 have kt':=Lib.hid kt
 clear kt
 go_enter Tryz.func100,Tryz.ntmps100
 go_upto_region 1 with (fail)
 obtain⟨X,Y0,hX,⟨zX,hzX⟩,ca,cb⟩:=box2n V _ _ 90 45
 rw [hX]
 have g0:=ca 0 _ rfl
 have g1:=ca 1 _ rfl
 have g2:=ca 2 _ rfl
 have g3:=ca 3 _ rfl
 have g4:=ca 4 _ rfl
 have g5:=ca 5 _ rfl
 have g6:=ca 6 _ rfl
 have g7:=ca 7 _ rfl
 have b0:=cb 0 _ rfl
 have b1:=cb 1 _ rfl
 have b2:=cb 2 _ rfl
 have b3:=cb 3 _ rfl
 have b4:=cb 4 _ rfl
 have b5:=cb 5 _ rfl
 have b6:=cb 6 _ rfl
 have b7:=cb 7 _ rfl
 have b8:=cb 8 _ rfl
 have qkt:=Lib.hid (kpE_at hzX kt'.out)
 have hz:=Lib.hid hzX
 clear hX ca cb hzX kt'
 have kd:=Lib.hid (qkt.out ⟨Y0.blocks,Y0.draws+1⟩)
 clear qkt
 go_region_dies
 all_goals
  refine kd.out.mono ?_
  rintro r w' ⟨rfl,x1,rfl⟩
  exact⟨rfl,rfl,by rw [hz.out,plus_plus];exact⟨_,rfl⟩⟩
set_option maxRecDepth 100000 in
set_option maxHeartbeats 16000000 in
theorem goes_yes (p0:Option Addr) (n0 c0:Nat) (p1:Option Addr) (n1 c1:Nat) (p2:Option Addr) (n2 c2:Nat) (p3:Option Addr) (n3 c3:Nat) (p4:Option Addr) (n4 c4:Nat) (p5:Option Addr) (n5 c5:Nat) (p6:Option Addr) (n6 c6:Nat) (act:Int) (op lw lh ll:Int) (hd nm:ByteArray) (eh el:Int) (ep:Option Addr) (en ec:Nat) (k tw:Int) (tt tf:Bool) (R:Int) (w:World)
  (kt:KpE Tryz.prog w 28 #[.agg #[.slice p0 n0 c0,.slice p1 n1 c1,.slice p2 n2 c2,.slice p3 n3 c3,.slice p4 n4 c4,.slice p5 n5 c5,.slice p6 n6 c6,.int .i64 act],.agg #[.int .u8 op,.int .i64 lw,.int .u64 lh,.int .u64 ll,.string hd,.string nm,.int .i64 eh,.int .i64 el,.slice ep en ec]] (.returned (.agg #[.int .i64 tw,.bool tt,.bool tf])))
  (kg:KpE Tryz.prog w 165 #[.agg #[.int .i64 tw,.bool tt,.bool tf],.agg #[.int .u8 op,.int .i64 lw,.int .u64 lh,.int .u64 ll,.string hd,.string nm,.int .i64 eh,.int .i64 el,.slice ep en ec],.int .i64 k] (endE R (.tuple #[]))) :
  KpE Tryz.prog w 100 #[.agg #[.slice p0 n0 c0,.slice p1 n1 c1,.slice p2 n2 c2,.slice p3 n3 c3,.slice p4 n4 c4,.slice p5 n5 c5,.slice p6 n6 c6,.int .i64 act],.agg #[.int .u8 op,.int .i64 lw,.int .u64 lh,.int .u64 ll,.string hd,.string nm,.int .i64 eh,.int .i64 el,.slice ep en ec],.int .i64 k] (endE R (.tuple #[])):=by
 intro y0
 have kt:=kt.up y0
 have kg:=kg.up y0
 obtain⟨V,hV⟩:∃ V,plus w y0=V:=⟨_,rfl⟩
 rw [hV] at kt kg ⊢
 clear hV
 have kt':=Lib.hid kt
 have kg':=Lib.hid kg
 clear kt kg
 go_enter Tryz.func100,Tryz.ntmps100
 go_upto_region 1 with (fail)
 obtain⟨X,Y0,hX,⟨zX,hzX⟩,ca,cb⟩:=box2n V _ _ 90 45
 rw [hX]
 have g0:=ca 0 _ rfl
 have g1:=ca 1 _ rfl
 have g2:=ca 2 _ rfl
 have g3:=ca 3 _ rfl
 have g4:=ca 4 _ rfl
 have g5:=ca 5 _ rfl
 have g6:=ca 6 _ rfl
 have g7:=ca 7 _ rfl
 have b0:=cb 0 _ rfl
 have b1:=cb 1 _ rfl
 have b2:=cb 2 _ rfl
 have b3:=cb 3 _ rfl
 have b4:=cb 4 _ rfl
 have b5:=cb 5 _ rfl
 have b6:=cb 6 _ rfl
 have b7:=cb 7 _ rfl
 have b8:=cb 8 _ rfl
 have qkt:=Lib.hid (kpE_at hzX kt'.out)
 have qkg:=Lib.hid (kpE_at hzX kg'.out)
 have hz:=Lib.hid hzX
 clear hX ca cb hzX kt' kg'
 refine wp_region_own_tail 5 (by kernel_rfl) (by kernel_rfl) ?_
 simp only [List.take_succ_cons,List.take_zero,List.drop_succ_cons,List.drop_zero]
 repeat (go_big_quiet_step (first|(with_reducible exact qkt.out _)))
 refine wpQuiet_nil ?_
 rintro _ ⟨y1,rfl⟩
 clear qkt
 by_cases r0:R=0
 ·subst r0
  go_wp2_with fail
  refine (qkg.out y1).mono ?_
  rintro r w' ⟨rfl,x2,rfl⟩
  rw [show endE 0 (.tuple #[])=.returned (.tuple #[]) from rfl]
  go_wp2
  go_end0
  exact⟨rfl,by rw [hz.out,plus_plus];exact⟨_,rfl⟩⟩
 ·go_wp2_with fail
  refine (qkg.out y1).mono ?_
  rintro r w' ⟨rfl,x2,rfl⟩
  rw [show endE R (.tuple #[])=gaveE R by rw [endE,if_neg r0]]
  go_wp2
  exact⟨rfl,(endE_n r0).symm,by rw [hz.out,plus_plus];exact⟨_,rfl⟩⟩
set_option maxRecDepth 100000 in
set_option maxHeartbeats 16000000 in
theorem target_meta (p0:Option Addr) (n0 c0:Nat) (p1:Option Addr) (n1 c1:Nat) (p2:Option Addr) (n2 c2:Nat) (p3:Option Addr) (n3 c3:Nat) (p4:Option Addr) (n4 c4:Nat) (p5:Option Addr) (n5 c5:Nat) (p6:Option Addr) (n6 c6:Nat) (act:Int) (op lw lh ll:Int) (hd nm:ByteArray) (eh el:Int) (ep:Option Addr) (en ec:Nat) (sk:Int) (shd snm:ByteArray) (tp:Option Addr) (tn tc:Nat) (up:Option Addr) (un uc:Nat) (k:Int) (w:World) (h0:shd.toList.isEmpty=true)
  (kt:Kp Tryz.prog w 126 #[.agg #[.slice p0 n0 c0,.slice p1 n1 c1,.slice p2 n2 c2,.slice p3 n3 c3,.slice p4 n4 c4,.slice p5 n5 c5,.slice p6 n6 c6,.int .i64 act],.string snm] (.int .i64 k)) :
  Kp Tryz.prog w 101 #[.agg #[.slice p0 n0 c0,.slice p1 n1 c1,.slice p2 n2 c2,.slice p3 n3 c3,.slice p4 n4 c4,.slice p5 n5 c5,.slice p6 n6 c6,.int .i64 act],.agg #[.int .u8 sk,.string shd,.string snm,.int .u8 op,.int .i64 lw,.int .u64 lh,.int .u64 ll,.string hd,.string nm,.int .i64 eh,.int .i64 el,.slice ep en ec,.slice tp tn tc,.slice up un uc]] (.int .i64 k):=by
 intro y0
 have kt:=kt.up y0
 obtain⟨V,hV⟩:∃ V,plus w y0=V:=⟨_,rfl⟩
 rw [hV] at kt ⊢
 clear hV
 have kt':=Lib.hid kt
 clear kt
 go_enter Tryz.func101,Tryz.ntmps101
 go_upto_region 1 with (fail)
 obtain⟨X,Y0,hX,⟨zX,hzX⟩,ca,cb⟩:=box2n V _ _ 90 47
 rw [hX]
 have g0:=ca 0 _ rfl
 have g1:=ca 1 _ rfl
 have g2:=ca 2 _ rfl
 have g3:=ca 3 _ rfl
 have g4:=ca 4 _ rfl
 have g5:=ca 5 _ rfl
 have g6:=ca 6 _ rfl
 have g7:=ca 7 _ rfl
 have b0:=cb 0 _ rfl
 have b1:=cb 1 _ rfl
 have b2:=cb 2 _ rfl
 have b3:=cb 3 _ rfl
 have b4:=cb 4 _ rfl
 have b5:=cb 5 _ rfl
 have b6:=cb 6 _ rfl
 have b7:=cb 7 _ rfl
 have b8:=cb 8 _ rfl
 have b9:=cb 9 _ rfl
 have b10:=cb 10 _ rfl
 have b11:=cb 11 _ rfl
 have b12:=cb 12 _ rfl
 have b13:=cb 13 _ rfl
 have qkt:=Lib.hid (kp_at hzX kt'.out)
 have hz:=Lib.hid hzX
 clear hX ca cb hzX kt'
 go_wp2_with (first|(go_at_call 126;with_reducible refine (qkt.out _).mono ?_;rintro r w' ⟨rfl,x,rfl⟩))
 go_ret
 exact⟨rfl,by rw [hz.out,plus_plus];exact⟨_,rfl⟩⟩
set_option maxRecDepth 100000 in
set_option maxHeartbeats 16000000 in
theorem target_field (p0:Option Addr) (n0 c0:Nat) (p1:Option Addr) (n1 c1:Nat) (p2:Option Addr) (n2 c2:Nat) (p3:Option Addr) (n3 c3:Nat) (p4:Option Addr) (n4 c4:Nat) (p5:Option Addr) (n5 c5:Nat) (p6:Option Addr) (n6 c6:Nat) (act:Int) (op lw lh ll:Int) (hd nm:ByteArray) (eh el:Int) (ep:Option Addr) (en ec:Nat) (sk:Int) (shd snm:ByteArray) (tp:Option Addr) (tn tc:Nat) (up:Option Addr) (un uc:Nat) (k:Int) (w:World) (h0:shd.toList.isEmpty=false)
  (kt:Kp Tryz.prog w 125 #[.agg #[.slice p0 n0 c0,.slice p1 n1 c1,.slice p2 n2 c2,.slice p3 n3 c3,.slice p4 n4 c4,.slice p5 n5 c5,.slice p6 n6 c6,.int .i64 act],.string shd,.string snm] (.int .i64 k)) :
  Kp Tryz.prog w 101 #[.agg #[.slice p0 n0 c0,.slice p1 n1 c1,.slice p2 n2 c2,.slice p3 n3 c3,.slice p4 n4 c4,.slice p5 n5 c5,.slice p6 n6 c6,.int .i64 act],.agg #[.int .u8 sk,.string shd,.string snm,.int .u8 op,.int .i64 lw,.int .u64 lh,.int .u64 ll,.string hd,.string nm,.int .i64 eh,.int .i64 el,.slice ep en ec,.slice tp tn tc,.slice up un uc]] (.int .i64 k):=by
 intro y0
 have kt:=kt.up y0
 obtain⟨V,hV⟩:∃ V,plus w y0=V:=⟨_,rfl⟩
 rw [hV] at kt ⊢
 clear hV
 have kt':=Lib.hid kt
 clear kt
 go_enter Tryz.func101,Tryz.ntmps101
 go_upto_region 1 with (fail)
 obtain⟨X,Y0,hX,⟨zX,hzX⟩,ca,cb⟩:=box2n V _ _ 90 47
 rw [hX]
 have g0:=ca 0 _ rfl
 have g1:=ca 1 _ rfl
 have g2:=ca 2 _ rfl
 have g3:=ca 3 _ rfl
 have g4:=ca 4 _ rfl
 have g5:=ca 5 _ rfl
 have g6:=ca 6 _ rfl
 have g7:=ca 7 _ rfl
 have b0:=cb 0 _ rfl
 have b1:=cb 1 _ rfl
 have b2:=cb 2 _ rfl
 have b3:=cb 3 _ rfl
 have b4:=cb 4 _ rfl
 have b5:=cb 5 _ rfl
 have b6:=cb 6 _ rfl
 have b7:=cb 7 _ rfl
 have b8:=cb 8 _ rfl
 have b9:=cb 9 _ rfl
 have b10:=cb 10 _ rfl
 have b11:=cb 11 _ rfl
 have b12:=cb 12 _ rfl
 have b13:=cb 13 _ rfl
 have qkt:=Lib.hid (kp_at hzX kt'.out)
 have hz:=Lib.hid hzX
 clear hX ca cb hzX kt'
 go_wp2_with (first|(go_at_call 125;with_reducible refine (qkt.out _).mono ?_;rintro r w' ⟨rfl,x,rfl⟩))
 go_ret
 exact⟨rfl,by rw [hz.out,plus_plus];exact⟨_,rfl⟩⟩
set_option maxRecDepth 100000 in
set_option maxHeartbeats 16000000 in
theorem forward_no (p0:Option Addr) (n0 c0:Nat) (p1:Option Addr) (n1 c1:Nat) (p2:Option Addr) (n2 c2:Nat) (p3:Option Addr) (n3 c3:Nat) (p4:Option Addr) (n4 c4:Nat) (p5:Option Addr) (n5 c5:Nat) (p6:Option Addr) (n6 c6:Nat) (act:Int) (op lw lh ll:Int) (hd nm:ByteArray) (eh el:Int) (ep:Option Addr) (en ec:Nat) (r:Int) (w:World)
  (kt:KpE Tryz.prog w 28 #[.agg #[.slice p0 n0 c0,.slice p1 n1 c1,.slice p2 n2 c2,.slice p3 n3 c3,.slice p4 n4 c4,.slice p5 n5 c5,.slice p6 n6 c6,.int .i64 act],.agg #[.int .u8 op,.int .i64 lw,.int .u64 lh,.int .u64 ll,.string hd,.string nm,.int .i64 eh,.int .i64 el,.slice ep en ec]] (gaveE r)) :
  KpE Tryz.prog w 103 #[.agg #[.slice p0 n0 c0,.slice p1 n1 c1,.slice p2 n2 c2,.slice p3 n3 c3,.slice p4 n4 c4,.slice p5 n5 c5,.slice p6 n6 c6,.int .i64 act],.agg #[.int .u8 op,.int .i64 lw,.int .u64 lh,.int .u64 ll,.string hd,.string nm,.int .i64 eh,.int .i64 el,.slice ep en ec]] (gaveE r):=by
 intro y0
 have kt:=kt.up y0
 obtain⟨V,hV⟩:∃ V,plus w y0=V:=⟨_,rfl⟩
 rw [hV] at kt ⊢
 clear hV
 have kt':=Lib.hid kt
 clear kt
 go_enter Tryz.func103,Tryz.ntmps103
 go_upto_region 1 with (fail)
 obtain⟨X,Y0,hX,⟨zX,hzX⟩,ca,cb⟩:=box2n V _ _ 90 45
 rw [hX]
 have g0:=ca 0 _ rfl
 have g1:=ca 1 _ rfl
 have g2:=ca 2 _ rfl
 have g3:=ca 3 _ rfl
 have g4:=ca 4 _ rfl
 have g5:=ca 5 _ rfl
 have g6:=ca 6 _ rfl
 have g7:=ca 7 _ rfl
 have b0:=cb 0 _ rfl
 have b1:=cb 1 _ rfl
 have b2:=cb 2 _ rfl
 have b3:=cb 3 _ rfl
 have b4:=cb 4 _ rfl
 have b5:=cb 5 _ rfl
 have b6:=cb 6 _ rfl
 have b7:=cb 7 _ rfl
 have b8:=cb 8 _ rfl
 have qkt:=Lib.hid (kpE_at hzX kt'.out)
 have hz:=Lib.hid hzX
 clear hX ca cb hzX kt'
 go_wp2_with fail
 refine (qkt.out _).mono ?_
 rintro r w' ⟨rfl,x1,rfl⟩
 clear qkt
 go_wp2
 exact⟨rfl,rfl,by rw [hz.out,plus_plus];exact⟨_,rfl⟩⟩
set_option maxRecDepth 100000 in
set_option maxHeartbeats 16000000 in
theorem forward_truth (p0:Option Addr) (n0 c0:Nat) (p1:Option Addr) (n1 c1:Nat) (p2:Option Addr) (n2 c2:Nat) (p3:Option Addr) (n3 c3:Nat) (p4:Option Addr) (n4 c4:Nat) (p5:Option Addr) (n5 c5:Nat) (p6:Option Addr) (n6 c6:Nat) (act:Int) (op lw lh ll:Int) (hd nm:ByteArray) (eh el:Int) (ep:Option Addr) (en ec:Nat) (tw:Int) (tf:Bool)  (w:World)
  (kt:KpE Tryz.prog w 28 #[.agg #[.slice p0 n0 c0,.slice p1 n1 c1,.slice p2 n2 c2,.slice p3 n3 c3,.slice p4 n4 c4,.slice p5 n5 c5,.slice p6 n6 c6,.int .i64 act],.agg #[.int .u8 op,.int .i64 lw,.int .u64 lh,.int .u64 ll,.string hd,.string nm,.int .i64 eh,.int .i64 el,.slice ep en ec]] (.returned (.agg #[.int .i64 tw,.bool true,.bool tf]))) :
  KpE Tryz.prog w 103 #[.agg #[.slice p0 n0 c0,.slice p1 n1 c1,.slice p2 n2 c2,.slice p3 n3 c3,.slice p4 n4 c4,.slice p5 n5 c5,.slice p6 n6 c6,.int .i64 act],.agg #[.int .u8 op,.int .i64 lw,.int .u64 lh,.int .u64 ll,.string hd,.string nm,.int .i64 eh,.int .i64 el,.slice ep en ec]] (gaveE 9):=by
 intro y0
 have kt:=kt.up y0
 obtain⟨V,hV⟩:∃ V,plus w y0=V:=⟨_,rfl⟩
 rw [hV] at kt ⊢
 clear hV
 have kt':=Lib.hid kt
 clear kt
 go_enter Tryz.func103,Tryz.ntmps103
 go_upto_region 1 with (fail)
 obtain⟨X,Y0,hX,⟨zX,hzX⟩,ca,cb⟩:=box2n V _ _ 90 45
 rw [hX]
 have g0:=ca 0 _ rfl
 have g1:=ca 1 _ rfl
 have g2:=ca 2 _ rfl
 have g3:=ca 3 _ rfl
 have g4:=ca 4 _ rfl
 have g5:=ca 5 _ rfl
 have g6:=ca 6 _ rfl
 have g7:=ca 7 _ rfl
 have b0:=cb 0 _ rfl
 have b1:=cb 1 _ rfl
 have b2:=cb 2 _ rfl
 have b3:=cb 3 _ rfl
 have b4:=cb 4 _ rfl
 have b5:=cb 5 _ rfl
 have b6:=cb 6 _ rfl
 have b7:=cb 7 _ rfl
 have b8:=cb 8 _ rfl
 have qkt:=Lib.hid (kpE_at hzX kt'.out)
 have hz:=Lib.hid hzX
 clear hX ca cb hzX kt'
 go_wp2_with fail
 refine (qkt.out _).mono ?_
 rintro r w' ⟨rfl,x1,rfl⟩
 clear qkt
 go_upto_region 2 with (fail)
 obtain⟨X2,Y2,hX2,⟨z2,hz2⟩,cc⟩:=box1n (plus X x1) #[.int .i64 tw,.bool true,.bool tf] 75
 rw [hX2]
 have t0:=cc 0 _ rfl
 have t1:=cc 1 _ rfl
 have t2:=cc 2 _ rfl
 have hz4:=Lib.hid (show ∃ z,X2=plus V z by rw [hz2,hz.out,plus_plus,plus_plus];exact⟨_,rfl⟩)
 have hzX2:=Lib.hid hz2
 clear hX2 cc hz2 hz
 go_wp2_with fail
 refine (need_no X2 9 Y2).mono ?_
 rintro r w' ⟨rfl,x2,rfl⟩
 go_wp2
 obtain⟨zz,hzz⟩:=hz4.out
 exact⟨rfl,rfl,by rw [hzz,plus_plus,plus_plus];exact⟨_,rfl⟩⟩
set_option maxRecDepth 100000 in
set_option maxHeartbeats 16000000 in
theorem forward_bits (p0:Option Addr) (n0 c0:Nat) (p1:Option Addr) (n1 c1:Nat) (p2:Option Addr) (n2 c2:Nat) (p3:Option Addr) (n3 c3:Nat) (p4:Option Addr) (n4 c4:Nat) (p5:Option Addr) (n5 c5:Nat) (p6:Option Addr) (n6 c6:Nat) (act:Int) (op lw lh ll:Int) (hd nm:ByteArray) (eh el:Int) (ep:Option Addr) (en ec:Nat) (tw:Int)   (w:World)
  (kt:KpE Tryz.prog w 28 #[.agg #[.slice p0 n0 c0,.slice p1 n1 c1,.slice p2 n2 c2,.slice p3 n3 c3,.slice p4 n4 c4,.slice p5 n5 c5,.slice p6 n6 c6,.int .i64 act],.agg #[.int .u8 op,.int .i64 lw,.int .u64 lh,.int .u64 ll,.string hd,.string nm,.int .i64 eh,.int .i64 el,.slice ep en ec]] (.returned (.agg #[.int .i64 tw,.bool false,.bool false]))) :
  KpE Tryz.prog w 103 #[.agg #[.slice p0 n0 c0,.slice p1 n1 c1,.slice p2 n2 c2,.slice p3 n3 c3,.slice p4 n4 c4,.slice p5 n5 c5,.slice p6 n6 c6,.int .i64 act],.agg #[.int .u8 op,.int .i64 lw,.int .u64 lh,.int .u64 ll,.string hd,.string nm,.int .i64 eh,.int .i64 el,.slice ep en ec]] (.returned (.tuple #[])):=by
 intro y0
 have kt:=kt.up y0
 obtain⟨V,hV⟩:∃ V,plus w y0=V:=⟨_,rfl⟩
 rw [hV] at kt ⊢
 clear hV
 have kt':=Lib.hid kt
 clear kt
 go_enter Tryz.func103,Tryz.ntmps103
 go_upto_region 1 with (fail)
 obtain⟨X,Y0,hX,⟨zX,hzX⟩,ca,cb⟩:=box2n V _ _ 90 45
 rw [hX]
 have g0:=ca 0 _ rfl
 have g1:=ca 1 _ rfl
 have g2:=ca 2 _ rfl
 have g3:=ca 3 _ rfl
 have g4:=ca 4 _ rfl
 have g5:=ca 5 _ rfl
 have g6:=ca 6 _ rfl
 have g7:=ca 7 _ rfl
 have b0:=cb 0 _ rfl
 have b1:=cb 1 _ rfl
 have b2:=cb 2 _ rfl
 have b3:=cb 3 _ rfl
 have b4:=cb 4 _ rfl
 have b5:=cb 5 _ rfl
 have b6:=cb 6 _ rfl
 have b7:=cb 7 _ rfl
 have b8:=cb 8 _ rfl
 have qkt:=Lib.hid (kpE_at hzX kt'.out)
 have hz:=Lib.hid hzX
 clear hX ca cb hzX kt'
 go_wp2_with fail
 refine (qkt.out _).mono ?_
 rintro r w' ⟨rfl,x1,rfl⟩
 clear qkt
 go_upto_region 2 with (fail)
 obtain⟨X2,Y2,hX2,⟨z2,hz2⟩,cc⟩:=box1n (plus X x1) #[.int .i64 tw,.bool false,.bool false] 75
 rw [hX2]
 have t0:=cc 0 _ rfl
 have t1:=cc 1 _ rfl
 have t2:=cc 2 _ rfl
 have hz4:=Lib.hid (show ∃ z,X2=plus V z by rw [hz2,hz.out,plus_plus,plus_plus];exact⟨_,rfl⟩)
 have hzX2:=Lib.hid hz2
 clear hX2 cc hz2 hz
 go_wp2_with fail
 refine (need_yes X2 9 Y2).mono ?_
 rintro r w' ⟨rfl,x2,rfl⟩
 rw [plus_plus]
 go_wp2
 go_end0
 obtain⟨zz,hzz⟩:=hz4.out
 exact⟨rfl,by rw [hzz,plus_plus];exact⟨_,rfl⟩⟩
set_option maxRecDepth 100000 in
set_option maxHeartbeats 16000000 in
theorem forward_free (p0:Option Addr) (n0 c0:Nat) (p1:Option Addr) (n1 c1:Nat) (p2:Option Addr) (n2 c2:Nat) (p3:Option Addr) (n3 c3:Nat) (p4:Option Addr) (n4 c4:Nat) (p5:Option Addr) (n5 c5:Nat) (p6:Option Addr) (n6 c6:Nat) (act:Int) (op lw lh ll:Int) (hd nm:ByteArray) (eh el:Int) (ep:Option Addr) (en ec:Nat) (tw:Int)  (R:Int) (w:World)
  (kt:KpE Tryz.prog w 28 #[.agg #[.slice p0 n0 c0,.slice p1 n1 c1,.slice p2 n2 c2,.slice p3 n3 c3,.slice p4 n4 c4,.slice p5 n5 c5,.slice p6 n6 c6,.int .i64 act],.agg #[.int .u8 op,.int .i64 lw,.int .u64 lh,.int .u64 ll,.string hd,.string nm,.int .i64 eh,.int .i64 el,.slice ep en ec]] (.returned (.agg #[.int .i64 tw,.bool false,.bool true])))
  (kg:KpE Tryz.prog w 165 #[.agg #[.int .i64 tw,.bool false,.bool true],.agg #[.int .u8 op,.int .i64 lw,.int .u64 lh,.int .u64 ll,.string hd,.string nm,.int .i64 eh,.int .i64 el,.slice ep en ec],.int .i64 9] (endE R (.tuple #[]))) :
  KpE Tryz.prog w 103 #[.agg #[.slice p0 n0 c0,.slice p1 n1 c1,.slice p2 n2 c2,.slice p3 n3 c3,.slice p4 n4 c4,.slice p5 n5 c5,.slice p6 n6 c6,.int .i64 act],.agg #[.int .u8 op,.int .i64 lw,.int .u64 lh,.int .u64 ll,.string hd,.string nm,.int .i64 eh,.int .i64 el,.slice ep en ec]] (endE R (.tuple #[])):=by
 intro y0
 have kt:=kt.up y0
 have kg:=kg.up y0
 obtain⟨V,hV⟩:∃ V,plus w y0=V:=⟨_,rfl⟩
 rw [hV] at kt kg ⊢
 clear hV
 have kt':=Lib.hid kt
 have kg':=Lib.hid kg
 clear kt kg
 go_enter Tryz.func103,Tryz.ntmps103
 go_upto_region 1 with (fail)
 obtain⟨X,Y0,hX,⟨zX,hzX⟩,ca,cb⟩:=box2n V _ _ 90 45
 rw [hX]
 have g0:=ca 0 _ rfl
 have g1:=ca 1 _ rfl
 have g2:=ca 2 _ rfl
 have g3:=ca 3 _ rfl
 have g4:=ca 4 _ rfl
 have g5:=ca 5 _ rfl
 have g6:=ca 6 _ rfl
 have g7:=ca 7 _ rfl
 have b0:=cb 0 _ rfl
 have b1:=cb 1 _ rfl
 have b2:=cb 2 _ rfl
 have b3:=cb 3 _ rfl
 have b4:=cb 4 _ rfl
 have b5:=cb 5 _ rfl
 have b6:=cb 6 _ rfl
 have b7:=cb 7 _ rfl
 have b8:=cb 8 _ rfl
 have qkt:=Lib.hid (kpE_at hzX kt'.out)
 have qkg:=Lib.hid (atsE_of (kpE_up hzX kg'.out))
 have hz:=Lib.hid hzX
 clear hX ca cb hzX kt' kg'
 go_wp2_with fail
 refine (qkt.out _).mono ?_
 rintro r w' ⟨rfl,x1,rfl⟩
 clear qkt
 go_upto_region 2 with (fail)
 obtain⟨X2,Y2,hX2,⟨z2,hz2⟩,cc⟩:=box1n (plus X x1) #[.int .i64 tw,.bool false,.bool true] 75
 rw [hX2]
 have t0:=cc 0 _ rfl
 have t1:=cc 1 _ rfl
 have t2:=cc 2 _ rfl
 replace b0:∀ y,(plus X2 y).cell? ⟨V.heap.size+1,0,none⟩=some (.int .u8 op):=fun y=>by rw [hz2,plus_plus,plus_plus];exact b0 _
 replace b1:∀ y,(plus X2 y).cell? ⟨V.heap.size+1,1,none⟩=some (.int .i64 lw):=fun y=>by rw [hz2,plus_plus,plus_plus];exact b1 _
 replace b2:∀ y,(plus X2 y).cell? ⟨V.heap.size+1,2,none⟩=some (.int .u64 lh):=fun y=>by rw [hz2,plus_plus,plus_plus];exact b2 _
 replace b3:∀ y,(plus X2 y).cell? ⟨V.heap.size+1,3,none⟩=some (.int .u64 ll):=fun y=>by rw [hz2,plus_plus,plus_plus];exact b3 _
 replace b4:∀ y,(plus X2 y).cell? ⟨V.heap.size+1,4,none⟩=some (.string hd):=fun y=>by rw [hz2,plus_plus,plus_plus];exact b4 _
 replace b5:∀ y,(plus X2 y).cell? ⟨V.heap.size+1,5,none⟩=some (.string nm):=fun y=>by rw [hz2,plus_plus,plus_plus];exact b5 _
 replace b6:∀ y,(plus X2 y).cell? ⟨V.heap.size+1,6,none⟩=some (.int .i64 eh):=fun y=>by rw [hz2,plus_plus,plus_plus];exact b6 _
 replace b7:∀ y,(plus X2 y).cell? ⟨V.heap.size+1,7,none⟩=some (.int .i64 el):=fun y=>by rw [hz2,plus_plus,plus_plus];exact b7 _
 replace b8:∀ y,(plus X2 y).cell? ⟨V.heap.size+1,8,none⟩=some (.slice ep en ec):=fun y=>by rw [hz2,plus_plus,plus_plus];exact b8 _
 have hz4:=Lib.hid (show ∃ z,X2=plus V z by rw [hz2,hz.out,plus_plus,plus_plus];exact⟨_,rfl⟩)
 have hzX2:=Lib.hid hz2
 clear hX2 cc hz2 hz
 go_wp2_with fail
 refine (need_yes X2 9 Y2).mono ?_
 rintro r w' ⟨rfl,x2,rfl⟩
 rw [plus_plus]
 obtain⟨Y3,hY3⟩:∃ Y:Ext,(⟨Ext.blocks Y2++Ext.blocks x2,Ext.draws x2⟩:Ext)=Y:=⟨_,rfl⟩
 rw [hY3]
 clear hY3
 have hX3:=Lib.hid (show ∃ z,plus X2 Y3=plus X z from ⟨_,by rw [hzX2.out,plus_plus,plus_plus]⟩)
 by_cases r0:R=0
 ·subst r0
  go_wp2_with fail
  refine (qkg.out _ hX3.out).mono ?_
  rintro r w' ⟨rfl,x5,rfl⟩
  rw [show endE 0 (.tuple #[])=.returned (.tuple #[]) from rfl]
  go_wp2
  go_end0
  exact⟨rfl,by obtain⟨zz,hzz⟩:=hz4.out;rw [hzz,plus_plus,plus_plus];exact⟨_,rfl⟩⟩
 ·go_wp2_with fail
  refine (qkg.out _ hX3.out).mono ?_
  rintro r w' ⟨rfl,x5,rfl⟩
  rw [show endE R (.tuple #[])=gaveE R by rw [endE,if_neg r0]]
  go_wp2
  exact⟨rfl,(endE_n r0).symm,by obtain⟨zz,hzz⟩:=hz4.out;rw [hzz,plus_plus,plus_plus];exact⟨_,rfl⟩⟩
set_option maxRecDepth 100000 in
set_option maxHeartbeats 16000000 in
theorem stmt_set (p0:Option Addr) (n0 c0:Nat) (p1:Option Addr) (n1 c1:Nat) (p2:Option Addr) (n2 c2:Nat) (p3:Option Addr) (n3 c3:Nat) (p4:Option Addr) (n4 c4:Nat) (p5:Option Addr) (n5 c5:Nat) (p6:Option Addr) (n6 c6:Nat) (act:Int) (op lw lh ll:Int) (hd nm:ByteArray) (eh el:Int) (ep:Option Addr) (en ec:Nat) (_sk:Int) (shd snm:ByteArray) (tp:Option Addr) (tn tc:Nat) (up:Option Addr) (un uc:Nat) (k R:Int) (w:World)
  (kt:Kp Tryz.prog w 101 #[.agg #[.slice p0 n0 c0,.slice p1 n1 c1,.slice p2 n2 c2,.slice p3 n3 c3,.slice p4 n4 c4,.slice p5 n5 c5,.slice p6 n6 c6,.int .i64 act],.agg #[.int .u8 1,.string shd,.string snm,.int .u8 op,.int .i64 lw,.int .u64 lh,.int .u64 ll,.string hd,.string nm,.int .i64 eh,.int .i64 el,.slice ep en ec,.slice tp tn tc,.slice up un uc]] (.int .i64 k))
  (kg:KpE Tryz.prog w 100 #[.agg #[.slice p0 n0 c0,.slice p1 n1 c1,.slice p2 n2 c2,.slice p3 n3 c3,.slice p4 n4 c4,.slice p5 n5 c5,.slice p6 n6 c6,.int .i64 act],.agg #[.int .u8 op,.int .i64 lw,.int .u64 lh,.int .u64 ll,.string hd,.string nm,.int .i64 eh,.int .i64 el,.slice ep en ec],.int .i64 k] (endE R (.tuple #[]))) :
  KpE Tryz.prog w 36 #[.agg #[.slice p0 n0 c0,.slice p1 n1 c1,.slice p2 n2 c2,.slice p3 n3 c3,.slice p4 n4 c4,.slice p5 n5 c5,.slice p6 n6 c6,.int .i64 act],.agg #[.int .u8 1,.string shd,.string snm,.int .u8 op,.int .i64 lw,.int .u64 lh,.int .u64 ll,.string hd,.string nm,.int .i64 eh,.int .i64 el,.slice ep en ec,.slice tp tn tc,.slice up un uc]] (endE R (.tuple #[])):=by
 intro y0
 have kt:=kt.up y0
 have kg:=kg.up y0
 obtain⟨V,hV⟩:∃ V,plus w y0=V:=⟨_,rfl⟩
 rw [hV] at kt kg ⊢
 clear hV
 have kt':=Lib.hid kt
 have kg':=Lib.hid kg
 clear kt kg
 go_enter Tryz.func36,Tryz.ntmps36
 go_upto_region 1 with (fail)
 obtain⟨X,Y0,hX,⟨zX,hzX⟩,ca,cb⟩:=box2n V _ _ 90 47
 rw [hX]
 have g0:=ca 0 _ rfl
 have g1:=ca 1 _ rfl
 have g2:=ca 2 _ rfl
 have g3:=ca 3 _ rfl
 have g4:=ca 4 _ rfl
 have g5:=ca 5 _ rfl
 have g6:=ca 6 _ rfl
 have g7:=ca 7 _ rfl
 have b0:=cb 0 _ rfl
 have b1:=cb 1 _ rfl
 have b2:=cb 2 _ rfl
 have b3:=cb 3 _ rfl
 have b4:=cb 4 _ rfl
 have b5:=cb 5 _ rfl
 have b6:=cb 6 _ rfl
 have b7:=cb 7 _ rfl
 have b8:=cb 8 _ rfl
 have b9:=cb 9 _ rfl
 have b10:=cb 10 _ rfl
 have b11:=cb 11 _ rfl
 have b12:=cb 12 _ rfl
 have b13:=cb 13 _ rfl
 have qkt:=Lib.hid (kp_at hzX kt'.out)
 have qkg:=Lib.hid (kpE_at hzX kg'.out)
 have hz:=Lib.hid hzX
 clear hX ca cb hzX kt' kg'
 go_upto_region 3 with (fail)
 refine wp_region_own_tail 6 (by kernel_rfl) (by kernel_rfl) ?_
 simp only [List.take_succ_cons,List.take_zero,List.drop_succ_cons,List.drop_zero]
 repeat (go_big_quiet_step (first|(with_reducible exact qkt.out _)))
 refine wpQuiet_nil ?_
 rintro _ ⟨y1,rfl⟩
 clear qkt
 by_cases r0:R=0
 ·subst r0
  go_wp2_with fail
  refine (qkg.out y1).mono ?_
  rintro r w' ⟨rfl,x2,rfl⟩
  rw [show endE 0 (.tuple #[])=.returned (.tuple #[]) from rfl]
  go_wp2
  go_end0
  exact⟨rfl,by rw [hz.out,plus_plus];exact⟨_,rfl⟩⟩
 ·go_wp2_with fail
  refine (qkg.out y1).mono ?_
  rintro r w' ⟨rfl,x2,rfl⟩
  rw [show endE R (.tuple #[])=gaveE R by rw [endE,if_neg r0]]
  go_wp2
  exact⟨rfl,(endE_n r0).symm,by rw [hz.out,plus_plus];exact⟨_,rfl⟩⟩
set_option maxRecDepth 100000 in
set_option maxHeartbeats 16000000 in
theorem stmt_if_no (p0:Option Addr) (n0 c0:Nat) (p1:Option Addr) (n1 c1:Nat) (p2:Option Addr) (n2 c2:Nat) (p3:Option Addr) (n3 c3:Nat) (p4:Option Addr) (n4 c4:Nat) (p5:Option Addr) (n5 c5:Nat) (p6:Option Addr) (n6 c6:Nat) (act:Int) (op lw lh ll:Int) (hd nm:ByteArray) (eh el:Int) (ep:Option Addr) (en ec:Nat) (_:Int) (shd snm:ByteArray) (tp:Option Addr) (tn tc:Nat) (up:Option Addr) (un uc:Nat) (r:Int) (w:World)
  (kt:KpE Tryz.prog w 28 #[.agg #[.slice p0 n0 c0,.slice p1 n1 c1,.slice p2 n2 c2,.slice p3 n3 c3,.slice p4 n4 c4,.slice p5 n5 c5,.slice p6 n6 c6,.int .i64 act],.agg #[.int .u8 op,.int .i64 lw,.int .u64 lh,.int .u64 ll,.string hd,.string nm,.int .i64 eh,.int .i64 el,.slice ep en ec]] (gaveE r)) :
  KpE Tryz.prog w 36 #[.agg #[.slice p0 n0 c0,.slice p1 n1 c1,.slice p2 n2 c2,.slice p3 n3 c3,.slice p4 n4 c4,.slice p5 n5 c5,.slice p6 n6 c6,.int .i64 act],.agg #[.int .u8 2,.string shd,.string snm,.int .u8 op,.int .i64 lw,.int .u64 lh,.int .u64 ll,.string hd,.string nm,.int .i64 eh,.int .i64 el,.slice ep en ec,.slice tp tn tc,.slice up un uc]] (gaveE r):=by
 intro y0
 have kt:=kt.up y0
 obtain⟨V,hV⟩:∃ V,plus w y0=V:=⟨_,rfl⟩
 rw [hV] at kt ⊢
 clear hV
 have kt':=Lib.hid kt
 clear kt
 go_enter Tryz.func36,Tryz.ntmps36
 go_upto_region 1 with (fail)
 obtain⟨X,Y0,hX,⟨zX,hzX⟩,ca,cb⟩:=box2n V _ _ 90 47
 rw [hX]
 have g0:=ca 0 _ rfl
 have g1:=ca 1 _ rfl
 have g2:=ca 2 _ rfl
 have g3:=ca 3 _ rfl
 have g4:=ca 4 _ rfl
 have g5:=ca 5 _ rfl
 have g6:=ca 6 _ rfl
 have g7:=ca 7 _ rfl
 have b0:=cb 0 _ rfl
 have b1:=cb 1 _ rfl
 have b2:=cb 2 _ rfl
 have b3:=cb 3 _ rfl
 have b4:=cb 4 _ rfl
 have b5:=cb 5 _ rfl
 have b6:=cb 6 _ rfl
 have b7:=cb 7 _ rfl
 have b8:=cb 8 _ rfl
 have b9:=cb 9 _ rfl
 have b10:=cb 10 _ rfl
 have b11:=cb 11 _ rfl
 have b12:=cb 12 _ rfl
 have b13:=cb 13 _ rfl
 have qkt:=Lib.hid (kpE_at hzX kt'.out)
 have hz:=Lib.hid hzX
 clear hX ca cb hzX kt'
 go_wp2_with fail
 refine (qkt.out _).mono ?_
 rintro r w' ⟨rfl,x1,rfl⟩
 clear qkt
 go_wp2
 exact⟨rfl,rfl,by rw [hz.out,plus_plus];exact⟨_,rfl⟩⟩
set_option maxRecDepth 100000 in
set_option maxHeartbeats 16000000 in
theorem stmt_if (p0:Option Addr) (n0 c0:Nat) (p1:Option Addr) (n1 c1:Nat) (p2:Option Addr) (n2 c2:Nat) (p3:Option Addr) (n3 c3:Nat) (p4:Option Addr) (n4 c4:Nat) (p5:Option Addr) (n5 c5:Nat) (p6:Option Addr) (n6 c6:Nat) (act:Int) (op lw lh ll:Int) (hd nm:ByteArray) (eh el:Int) (ep:Option Addr) (en ec:Nat) (_:Int) (shd snm:ByteArray) (tp:Option Addr) (tn tc:Nat) (up:Option Addr) (un uc:Nat) (tw:Int) (tt tf:Bool) (w:World)
  (kt:KpE Tryz.prog w 28 #[.agg #[.slice p0 n0 c0,.slice p1 n1 c1,.slice p2 n2 c2,.slice p3 n3 c3,.slice p4 n4 c4,.slice p5 n5 c5,.slice p6 n6 c6,.int .i64 act],.agg #[.int .u8 op,.int .i64 lw,.int .u64 lh,.int .u64 ll,.string hd,.string nm,.int .i64 eh,.int .i64 el,.slice ep en ec]] (.returned (.agg #[.int .i64 tw,.bool tt,.bool tf]))) :
  KpE Tryz.prog w 36 #[.agg #[.slice p0 n0 c0,.slice p1 n1 c1,.slice p2 n2 c2,.slice p3 n3 c3,.slice p4 n4 c4,.slice p5 n5 c5,.slice p6 n6 c6,.int .i64 act],.agg #[.int .u8 2,.string shd,.string snm,.int .u8 op,.int .i64 lw,.int .u64 lh,.int .u64 ll,.string hd,.string nm,.int .i64 eh,.int .i64 el,.slice ep en ec,.slice tp tn tc,.slice up un uc]] (endE (if tt then 0 else 9) (.tuple #[])):=by
 intro y0
 have kt:=kt.up y0
 obtain⟨V,hV⟩:∃ V,plus w y0=V:=⟨_,rfl⟩
 rw [hV] at kt ⊢
 clear hV
 have kt':=Lib.hid kt
 clear kt
 go_enter Tryz.func36,Tryz.ntmps36
 go_upto_region 1 with (fail)
 obtain⟨X,Y0,hX,⟨zX,hzX⟩,ca,cb⟩:=box2n V _ _ 90 47
 rw [hX]
 have g0:=ca 0 _ rfl
 have g1:=ca 1 _ rfl
 have g2:=ca 2 _ rfl
 have g3:=ca 3 _ rfl
 have g4:=ca 4 _ rfl
 have g5:=ca 5 _ rfl
 have g6:=ca 6 _ rfl
 have g7:=ca 7 _ rfl
 have b0:=cb 0 _ rfl
 have b1:=cb 1 _ rfl
 have b2:=cb 2 _ rfl
 have b3:=cb 3 _ rfl
 have b4:=cb 4 _ rfl
 have b5:=cb 5 _ rfl
 have b6:=cb 6 _ rfl
 have b7:=cb 7 _ rfl
 have b8:=cb 8 _ rfl
 have b9:=cb 9 _ rfl
 have b10:=cb 10 _ rfl
 have b11:=cb 11 _ rfl
 have b12:=cb 12 _ rfl
 have b13:=cb 13 _ rfl
 have qkt:=Lib.hid (kpE_at hzX kt'.out)
 have hz:=Lib.hid hzX
 clear hX ca cb hzX kt'
 have hfl:∀ W,(Instr.field 75 (.agg #[.int .i64 tw,.bool tt,.bool tf]) 1).run Tryz.prog W=.ok (.bool tt) W:=fun W=>by
  kernel_rfl
 go_wp2_with fail
 refine (qkt.out _).mono ?_
 rintro r w' ⟨rfl,x1,rfl⟩
 clear qkt
 go_wp2_with fail
 cases tt with
 | true =>
  refine (need_yes X 9 x1).mono ?_
  rintro r w' ⟨rfl,x2,rfl⟩
  go_wp2
  go_end0
  exact⟨by simp [endE],by rw [hz.out,plus_plus,plus_plus];exact⟨_,rfl⟩⟩
 | false =>
  refine (need_no X 9 x1).mono ?_
  rintro r w' ⟨rfl,x2,rfl⟩
  go_wp2
  exact⟨rfl,by simp [endE],by rw [hz.out,plus_plus,plus_plus];exact⟨_,rfl⟩⟩
set_option maxRecDepth 100000 in
set_option maxHeartbeats 16000000 in
theorem stmt_forward (p0:Option Addr) (n0 c0:Nat) (p1:Option Addr) (n1 c1:Nat) (p2:Option Addr) (n2 c2:Nat) (p3:Option Addr) (n3 c3:Nat) (p4:Option Addr) (n4 c4:Nat) (p5:Option Addr) (n5 c5:Nat) (p6:Option Addr) (n6 c6:Nat) (act:Int) (op lw lh ll:Int) (hd nm:ByteArray) (eh el:Int) (ep:Option Addr) (en ec:Nat) (_:Int) (shd snm:ByteArray) (tp:Option Addr) (tn tc:Nat) (up:Option Addr) (un uc:Nat) (R:Int) (w:World)
  (kt:KpE Tryz.prog w 103 #[.agg #[.slice p0 n0 c0,.slice p1 n1 c1,.slice p2 n2 c2,.slice p3 n3 c3,.slice p4 n4 c4,.slice p5 n5 c5,.slice p6 n6 c6,.int .i64 act],.agg #[.int .u8 op,.int .i64 lw,.int .u64 lh,.int .u64 ll,.string hd,.string nm,.int .i64 eh,.int .i64 el,.slice ep en ec]] (endE R (.tuple #[]))) :
  KpE Tryz.prog w 36 #[.agg #[.slice p0 n0 c0,.slice p1 n1 c1,.slice p2 n2 c2,.slice p3 n3 c3,.slice p4 n4 c4,.slice p5 n5 c5,.slice p6 n6 c6,.int .i64 act],.agg #[.int .u8 5,.string shd,.string snm,.int .u8 op,.int .i64 lw,.int .u64 lh,.int .u64 ll,.string hd,.string nm,.int .i64 eh,.int .i64 el,.slice ep en ec,.slice tp tn tc,.slice up un uc]] (endE R (.tuple #[])):=by
 intro y0
 have kt:=kt.up y0
 obtain⟨V,hV⟩:∃ V,plus w y0=V:=⟨_,rfl⟩
 rw [hV] at kt ⊢
 clear hV
 have kt':=Lib.hid kt
 clear kt
 go_enter Tryz.func36,Tryz.ntmps36
 go_upto_region 1 with (fail)
 obtain⟨X,Y0,hX,⟨zX,hzX⟩,ca,cb⟩:=box2n V _ _ 90 47
 rw [hX]
 have g0:=ca 0 _ rfl
 have g1:=ca 1 _ rfl
 have g2:=ca 2 _ rfl
 have g3:=ca 3 _ rfl
 have g4:=ca 4 _ rfl
 have g5:=ca 5 _ rfl
 have g6:=ca 6 _ rfl
 have g7:=ca 7 _ rfl
 have b0:=cb 0 _ rfl
 have b1:=cb 1 _ rfl
 have b2:=cb 2 _ rfl
 have b3:=cb 3 _ rfl
 have b4:=cb 4 _ rfl
 have b5:=cb 5 _ rfl
 have b6:=cb 6 _ rfl
 have b7:=cb 7 _ rfl
 have b8:=cb 8 _ rfl
 have b9:=cb 9 _ rfl
 have b10:=cb 10 _ rfl
 have b11:=cb 11 _ rfl
 have b12:=cb 12 _ rfl
 have b13:=cb 13 _ rfl
 have qkt:=Lib.hid (kpE_at hzX kt'.out)
 have hz:=Lib.hid hzX
 clear hX ca cb hzX kt'
 by_cases r0:R=0
 ·subst r0
  go_wp2_with fail
  refine (qkt.out _).mono ?_
  rintro r w' ⟨rfl,x2,rfl⟩
  rw [show endE 0 (.tuple #[])=.returned (.tuple #[]) from rfl]
  go_wp2
  go_end0
  exact⟨rfl,by rw [hz.out,plus_plus];exact⟨_,rfl⟩⟩
 ·go_wp2_with fail
  refine (qkt.out _).mono ?_
  rintro r w' ⟨rfl,x2,rfl⟩
  rw [show endE R (.tuple #[])=gaveE R by rw [endE,if_neg r0]]
  go_wp2
  exact⟨rfl,(endE_n r0).symm,by rw [hz.out,plus_plus];exact⟨_,rfl⟩⟩
set_option maxRecDepth 100000 in
set_option maxHeartbeats 16000000 in
theorem stmt_none (p0:Option Addr) (n0 c0:Nat) (p1:Option Addr) (n1 c1:Nat) (p2:Option Addr) (n2 c2:Nat) (p3:Option Addr) (n3 c3:Nat) (p4:Option Addr) (n4 c4:Nat) (p5:Option Addr) (n5 c5:Nat) (p6:Option Addr) (n6 c6:Nat) (act:Int) (op lw lh ll:Int) (hd nm:ByteArray) (eh el:Int) (ep:Option Addr) (en ec:Nat) (sk:Int) (shd snm:ByteArray) (tp:Option Addr) (tn tc:Nat) (up:Option Addr) (un uc:Nat)  (w:World)
  (h1:(sk == 1)=false) (h2:(sk == 2)=false) (h5:(sk == 5)=false) :
  KpE Tryz.prog w 36 #[.agg #[.slice p0 n0 c0,.slice p1 n1 c1,.slice p2 n2 c2,.slice p3 n3 c3,.slice p4 n4 c4,.slice p5 n5 c5,.slice p6 n6 c6,.int .i64 act],.agg #[.int .u8 sk,.string shd,.string snm,.int .u8 op,.int .i64 lw,.int .u64 lh,.int .u64 ll,.string hd,.string nm,.int .i64 eh,.int .i64 el,.slice ep en ec,.slice tp tn tc,.slice up un uc]] (.returned (.tuple #[])):=by
 intro y0
 obtain⟨V,hV⟩:∃ V,plus w y0=V:=⟨_,rfl⟩
 rw [hV]
 clear hV
 go_enter Tryz.func36,Tryz.ntmps36
 go_upto_region 1 with (fail)
 obtain⟨X,Y0,hX,⟨zX,hzX⟩,ca,cb⟩:=box2n V _ _ 90 47
 rw [hX]
 have g0:=ca 0 _ rfl
 have g1:=ca 1 _ rfl
 have g2:=ca 2 _ rfl
 have g3:=ca 3 _ rfl
 have g4:=ca 4 _ rfl
 have g5:=ca 5 _ rfl
 have g6:=ca 6 _ rfl
 have g7:=ca 7 _ rfl
 have b0:=cb 0 _ rfl
 have b1:=cb 1 _ rfl
 have b2:=cb 2 _ rfl
 have b3:=cb 3 _ rfl
 have b4:=cb 4 _ rfl
 have b5:=cb 5 _ rfl
 have b6:=cb 6 _ rfl
 have b7:=cb 7 _ rfl
 have b8:=cb 8 _ rfl
 have b9:=cb 9 _ rfl
 have b10:=cb 10 _ rfl
 have b11:=cb 11 _ rfl
 have b12:=cb 12 _ rfl
 have b13:=cb 13 _ rfl
 have hz:=Lib.hid hzX
 clear hX ca cb hzX 
 go_wp2
 go_end0
 exact⟨rfl,by rw [hz.out,plus_plus];exact⟨_,rfl⟩⟩
open Go.Shelf
theorem mem_fl {α:Type} (f:Nat→α→List It):∀ (l:List α) (b i:Nat) (x:α) (z:It),l[i]?=some x→z ∈ f (b+i) x→z ∈ flI f b l
 | [],_,i,_,_,h,_=>by simp at h
 | y :: l,b,0,x,z,h,hz=>by
  obtain rfl:y=x:=by simpa using h
  exact List.mem_append_left _ hz
 | y :: l,b,i+1,x,z,h,hz=>List.mem_append_right _ (mem_fl f l (b+1) i x z (by simpa using h) (by rw [show b+1+i=b+(i+1) by omega];exact hz))
theorem scan_zero (p:Pr):∀ (l:List It) (n:Nat),(scanI p l n).2=0→(∀ z ∈ l,wrI p z=0)∧(scanI p l n).1=n+l.length
 | [],n,_=>⟨fun z h=>(by cases h),rfl⟩
 | x :: l,n,h=>by
  by_cases e:wrI p x=0
  ·rw [scanI,if_pos e] at h ⊢
   obtain⟨h1,h2⟩:=scan_zero p l (n+1) h
   refine⟨fun z hz=>?_,by rw [h2,List.length_cons];omega⟩
   rcases List.mem_cons.1 hz with rfl | hz
   ·exact e
   ·exact h1 z hz
  ·rw [scanI,if_neg e] at h
   exact absurd h e
section
variable {p:Pr} (hall:∀ z ∈ encP p,wrI p z=0)
include hall
omit hall in
theorem mem_table {i:Nat} {x:Ta} (hx:p.tables.l[i]?=some x) {z:It} (hz:z ∈ encT i x.keys.l.length x.actions.l.length):z ∈ encP p :=
 List.mem_append_right _ (List.mem_append_right _ (List.mem_append_right _ (List.mem_append_right _ (List.mem_append_left _ (mem_fl _ _ 0 i x _ hx (by rw [Nat.zero_add];exact hz))))))
theorem ok_table {i:Nat} {x:Ta} (hx:p.tables.l[i]?=some x):taI p.tables.l x.name=(i:Int)∧acI p.actions.l x.dflt.name≠-1:=by
 refine⟨?_,?_⟩
 ·have h:=hall (.num 11 i 0) (mem_table hx (List.mem_cons_self ..))
  have hv:wrI p (.num 11 i 0)=if taI p.tables.l x.name=(i:Int) then 0 else 8:=by simp [wrI,wrN,hx]
  rw [hv] at h
  split at h
  ·assumption
  ·cases h
 ·have h:=hall (.num 14 i 0) (mem_table hx (by simp [encT]))
  obtain⟨w,hw⟩:∃ w,(match p.actions.l[(acI p.actions.l x.dflt.name).toNat]? with | some z=>z.params.l.length | none=>0)=w:=⟨_,rfl⟩
  have hv:wrI p (.num 14 i 0)=wDfI x.actions.l x.dflt.name x.dflt.args.l.length w:=by rw [← hw];simp [wrI,wrN,hx];rfl
  rw [hv] at h
  unfold wDfI at h
  split at h
  ·cases h
  ·next hn =>
   obtain⟨b,y,hb,hy⟩:=firstI_spec (fun y:ByteArray=>y.toList == x.dflt.name.toList) x.actions.l 0 hn
   have hlt:=(List.getElem?_eq_some_iff.1 hb).1
   have q:=hall (.num 13 i b) (mem_table hx (List.mem_cons_of_mem _ (List.mem_append_right _ (List.mem_append_left _ (List.mem_of_getElem? (ptI_at 13 i _ b hlt))))))
   have hv:wrI p (.num 13 i b)=if acI p.actions.l y=-1 then 7 else if nmI x.actions.l y=(b:Int) then 0 else 8:=by simp [wrI,wrN,hx,hb]
   rw [hv] at q
   have e2:y.toList=x.dflt.name.toList:=by simpa using hy
   have e3:acI p.actions.l y=acI p.actions.l x.dflt.name:=by unfold acI;rw [e2]
   rw [← e3]
   intro e4
   rw [if_pos e4] at q
   cases q
omit hall in
end
end Go.Proofs.YtobhijbncchpiaaGreat

/-
  WHAT IS PROVED HERE: a part of the proof (made narrower and merged by program; the parts: Vs Vt RR Vb Vc).
-/
import Derived.Deep.MidRow
import Derived.OrdersHeld
import Derived.Test.YtobhijbncchpiaaGreatM18
import Derived.Test.YtobhijbncchpiaaGreatM1
import Derived.Test.YtobhijbncchpiaaGreatM8
import Derived.Test.YtobhijbncchpiaaGreatM16
namespace Go.Proofs.YtobhijbncchpiaaGreat
open Go.RowKit
set_option maxRecDepth 100000 in
set_option maxHeartbeats 8000000 in
theorem fieldWidth_raw (p1:Option Addr) (n1 c1:Nat) (p2:Option Addr) (n2 c2:Nat) (p3:Option Addr) (n3 c3:Nat) (p4:Option Addr) (n4 c4:Nat) (p5:Option Addr) (n5 c5:Nat) (p6:Option Addr) (n6 c6:Nat) (pa:Addr) (n nc:Nat) (act:Int) (hd nm xn yn:ByteArray) (k i:Nat) (fp:Addr) (fn fc:Nat) (yw:Int) (w:World) (hk:k < n) (hi:i < fn)
  (hc:CellsAt w (pa.add (k*2)) [.string xn,.slice (some fp) fn fc]) (hd2:CellsAt w (fp.add (i*2)) [.string yn,.int .i64 yw])
  (h1:Kp Tryz.prog w 87 #[.agg #[.slice (some pa) n nc,.slice p1 n1 c1,.slice p2 n2 c2,.slice p3 n3 c3,.slice p4 n4 c4,.slice p5 n5 c5,.slice p6 n6 c6],.string hd] (.int .i64 (k:Int)))
  (h2:Kp Tryz.prog w 83 #[.agg #[.slice (some pa) n nc,.slice p1 n1 c1,.slice p2 n2 c2,.slice p3 n3 c3,.slice p4 n4 c4,.slice p5 n5 c5,.slice p6 n6 c6],.int .i64 (k:Int),.string nm] (.int .i64 (i:Int))) :
  Kp Tryz.prog w 125 #[.agg #[.slice (some pa) n nc,.slice p1 n1 c1,.slice p2 n2 c2,.slice p3 n3 c3,.slice p4 n4 c4,.slice p5 n5 c5,.slice p6 n6 c6,.int .i64 act],.string hd,.string nm] (.int .i64 yw):=by
 intro y0
 have h1:=h1.up y0
 have h2:=h2.up y0
 have hc:=hc.plus y0
 have hd2:=hd2.plus y0
 obtain⟨V,hV⟩:∃ V,plus w y0=V:=⟨_,rfl⟩
 rw [hV] at h1 h2 hc hd2 ⊢
 clear hV
 have h1':=Lib.hid h1
 have h2':=Lib.hid h2
 have hc':=Lib.hid hc
 have hd2':=Lib.hid hd2
 clear h1 h2 hc hd2
 go_enter Tryz.func125,Tryz.ntmps125
 go_upto_region 1 with (fail)
 obtain⟨X,Y0,hX,⟨zX,hzX⟩,ca⟩:=box1n V _ 90
 rw [hX]
 have g0:=ca 0 _ rfl
 have g1:=ca 1 _ rfl
 have g2:=ca 2 _ rfl
 have g3:=ca 3 _ rfl
 have g4:=ca 4 _ rfl
 have g5:=ca 5 _ rfl
 have g6:=ca 6 _ rfl
 have q1:=Lib.hid (kp_at hzX h1'.out)
 have q2:=Lib.hid (kp_at hzX h2'.out)
 have u1:=cells_up hzX hc'.out
 have u2:=cells_up hzX hd2'.out
 have d0:=fun y=>(u1.plus y).c0 _ rfl
 have d1:=fun y=>(u1.plus y).cs 0 _ rfl
 have e0:=fun y=>(u2.plus y).c0 _ rfl
 have e1:=fun y=>(u2.plus y).cs 0 _ rfl
 have hz:=Lib.hid hzX
 clear hX ca hzX u1 u2 h1' h2' hc' hd2'
 have hneg:¬ ((k:Int) < 0):=by omega
 have hneg2:¬ ((i:Int) < 0):=by omega
 go_upto_region 2 with (first|(go_at_call 87;with_reducible refine (q1.out _).mono ?_;rintro r w' ⟨rfl,x,rfl⟩))
 refine wp_region_own (by kernel_rfl) (by kernel_rfl) ?_
 repeat (go_big_quiet_step (first|(with_reducible exact q2.out _)))
 refine wpQuiet_nil ?_
 rintro _ ⟨y7,rfl⟩
 go_wp2
 go_ret
 exact⟨rfl,by rw [hz.out,plus_plus];exact⟨_,rfl⟩⟩
set_option maxRecDepth 100000 in
set_option maxHeartbeats 8000000 in
theorem metaWidth_raw (p0:Option Addr) (n0 c0:Nat) (p2:Option Addr) (n2 c2:Nat) (p3:Option Addr) (n3 c3:Nat) (p4:Option Addr) (n4 c4:Nat) (p5:Option Addr) (n5 c5:Nat) (p6:Option Addr) (n6 c6:Nat) (pa:Addr) (n nc:Nat) (act:Int) (nm yn:ByteArray) (i:Nat) (yw:Int) (w:World) (hi:i < n)
  (hd2:CellsAt w (pa.add (i*2)) [.string yn,.int .i64 yw])
  (h1:Kp Tryz.prog w 84 #[.agg #[.slice p0 n0 c0,.slice (some pa) n nc,.slice p2 n2 c2,.slice p3 n3 c3,.slice p4 n4 c4,.slice p5 n5 c5,.slice p6 n6 c6],.string nm] (.int .i64 (i:Int))) :
  Kp Tryz.prog w 126 #[.agg #[.slice p0 n0 c0,.slice (some pa) n nc,.slice p2 n2 c2,.slice p3 n3 c3,.slice p4 n4 c4,.slice p5 n5 c5,.slice p6 n6 c6,.int .i64 act],.string nm] (.int .i64 yw):=by
 intro y0
 have h1:=h1.up y0
 have hd2:=hd2.plus y0
 obtain⟨V,hV⟩:∃ V,plus w y0=V:=⟨_,rfl⟩
 rw [hV] at h1 hd2 ⊢
 clear hV
 have h1':=Lib.hid h1
 have hd2':=Lib.hid hd2
 clear h1 hd2
 go_enter Tryz.func126,Tryz.ntmps126
 go_upto_region 1 with (fail)
 obtain⟨X,Y0,hX,⟨zX,hzX⟩,ca⟩:=box1n V _ 90
 rw [hX]
 have g0:=ca 0 _ rfl
 have g1:=ca 1 _ rfl
 have g2:=ca 2 _ rfl
 have g3:=ca 3 _ rfl
 have g4:=ca 4 _ rfl
 have g5:=ca 5 _ rfl
 have g6:=ca 6 _ rfl
 have q1:=Lib.hid (kp_at hzX h1'.out)
 have u2:=cells_up hzX hd2'.out
 have e0:=fun y=>(u2.plus y).c0 _ rfl
 have e1:=fun y=>(u2.plus y).cs 0 _ rfl
 have hz:=Lib.hid hzX
 clear hX ca hzX u2 h1' hd2'
 have hneg2:¬ ((i:Int) < 0):=by omega
 refine wp_region_own (by kernel_rfl) (by kernel_rfl) ?_
 repeat (go_big_quiet_step (first|(with_reducible exact q1.out _)))
 refine wpQuiet_nil ?_
 rintro _ ⟨y7,rfl⟩
 go_wp2
 go_ret
 exact⟨rfl,by rw [hz.out,plus_plus];exact⟨_,rfl⟩⟩
/-- A scope. -/
abbrev scV (p:Pr) (act:Int):Value:=(.agg #[.slice p.headers.p p.headers.l.length p.headers.cap,.slice p.metas.p p.metas.l.length p.metas.cap,.slice p.states.p p.states.l.length p.states.cap,.slice p.actions.p p.actions.l.length p.actions.cap,.slice p.tables.p p.tables.l.length p.tables.cap,.slice p.control.p p.control.l.length p.control.cap,.slice p.emit.p p.emit.l.length p.emit.cap,.int .i64 act])
theorem t_fieldWidth (p:Pr) (w:World) (hin:p.In w) (hz:p.sz≤1048576) (act:Int) (hd nm:ByteArray) (q:fieldI p (hdI p.headers.l hd) nm≠-1) :
  Kp Tryz.prog w 125 #[scV p act,.string hd,.string nm] (.int .i64 (hdW p (hdI p.headers.l hd) (fieldI p (hdI p.headers.l hd) nm))):=by
 obtain⟨k,x,i,y,g1,hx,g3,hy⟩:=field_found q
 have h1:=q_Header p w hin hz hd
 have h2:=q_Field p w hin hz (hdI p.headers.l hd) nm
 rw [g3] at h2 ⊢
 rw [g1] at h1 h2 ⊢
 have hm:=List.mem_of_getElem? hx
 obtain⟨pa,hp,hc⟩:=hin.headers.row k x hx
 obtain⟨fa,hfp,hc2⟩:=(hin.headers.kids x hm).fields.row i y hy
 have hc1:CellsAt w (pa.add (k*2)) [.string x.name,.slice x.fields.p x.fields.l.length x.fields.cap]:=hc
 have e:hdW p (k:Int) (i:Int)=y.w:=by unfold hdW;rw [Int.toNat_natCast,hx];exact fd_at hy
 rw [e]
 rw [hfp] at hc1
 rw [hp] at h1 h2
 unfold scV
 rw [hp]
 exact fieldWidth_raw _ _ _ _ _ _ _ _ _ _ _ _ _ _ _ _ _ _ _ _ _ act hd nm _ _ k i _ _ _ _ w (List.getElem?_eq_some_iff.1 hx).1 (List.getElem?_eq_some_iff.1 hy).1 hc1 hc2 h1 h2
theorem t_metaWidth (p:Pr) (w:World) (hin:p.In w) (hz:p.sz≤1048576) (act:Int) (nm:ByteArray) (q:fdI p.metas.l nm≠-1) :
  Kp Tryz.prog w 126 #[scV p act,.string nm] (.int .i64 (widthF p.metas.l (fdI p.metas.l nm))):=by
 obtain⟨i,y,g3,hy⟩:=fd_found q
 have h1:=q_Meta p w hin hz nm
 rw [g3] at h1 ⊢
 rw [fd_at hy]
 obtain⟨pa,hp,hc⟩:=hin.metas.row i y hy
 rw [hp] at h1
 unfold scV
 rw [hp]
 exact metaWidth_raw _ _ _ _ _ _ _ _ _ _ _ _ _ _ _ _ _ _ _ _ _ act nm _ i _ w (List.getElem?_eq_some_iff.1 hy).1 hc h1
set_option maxRecDepth 100000 in
set_option maxHeartbeats 8000000 in
theorem leaf_no (p0:Option Addr) (n0 c0:Nat) (p1:Option Addr) (n1 c1:Nat) (p2:Option Addr) (n2 c2:Nat) (p3:Option Addr) (n3 c3:Nat) (p4:Option Addr) (n4 c4:Nat) (p5:Option Addr) (n5 c5:Nat) (p6:Option Addr) (n6 c6:Nat) (act:Int) (lw lh ll:Int) (hd nm:ByteArray) (eh el:Int) (ep:Option Addr) (en ec:Nat) (op:Int) (w:World)
  (hN:Kp Tryz.prog w 94 #[.agg #[.slice p0 n0 c0,.slice p1 n1 c1,.slice p2 n2 c2,.slice p3 n3 c3,.slice p4 n4 c4,.slice p5 n5 c5,.slice p6 n6 c6],.int .i64 act,.agg #[.int .u8 op,.int .i64 lw,.int .u64 lh,.int .u64 ll,.string hd,.string nm,.int .i64 eh,.int .i64 el,.slice ep en ec]] (.int .i64 7)) :
  KpE Tryz.prog w 47 #[.agg #[.slice p0 n0 c0,.slice p1 n1 c1,.slice p2 n2 c2,.slice p3 n3 c3,.slice p4 n4 c4,.slice p5 n5 c5,.slice p6 n6 c6,.int .i64 act],.agg #[.int .u8 op,.int .i64 lw,.int .u64 lh,.int .u64 ll,.string hd,.string nm,.int .i64 eh,.int .i64 el,.slice ep en ec]] (gaveE 7):=by
 intro y0
 have hN:=hN.up y0
 obtain⟨V,hV⟩:∃ V,plus w y0=V:=⟨_,rfl⟩
 rw [hV] at hN ⊢
 clear hV
 have hN':=Lib.hid hN
 clear hN
 go_enter Tryz.func47,Tryz.ntmps47
 go_wp2_with fail
 obtain⟨X,Y0,hX,⟨zX,hzX⟩,-,ca,cb,cc,fc⟩:=box3f V _ _ _ 90 45 75
 rw [hX]
 have g0:=ca 0 _ rfl
 have g1:=ca 1 _ rfl
 have g2:=ca 2 _ rfl
 have g3:=ca 3 _ rfl
 have g4:=ca 4 _ rfl
 have g5:=ca 5 _ rfl
 have g6:=ca 6 _ rfl
 have g7:=ca 7 _ rfl
 have b0:=cb 0 _ rfl
 have b1:=cb 1 _ rfl
 have b2:=cb 2 _ rfl
 have b3:=cb 3 _ rfl
 have b4:=cb 4 _ rfl
 have b5:=cb 5 _ rfl
 have b6:=cb 6 _ rfl
 have b7:=cb 7 _ rfl
 have b8:=cb 8 _ rfl
 have hR:=Lib.hid (rb_of ⟨zX,hzX⟩ (show V.heap.size≤V.heap.size+1+1 by omega) cc fc)
 have qhN:=Lib.hid (kp_at hzX hN'.out)
 have hz3:=Lib.hid hzX
 clear hX ca cb cc fc hzX hN'
 refine (qhN.out Y0).mono ?_
 rintro r w' ⟨rfl,x1,rfl⟩
 clear qhN
 go_wp2_with fail
 refine (need_no X 7 x1).mono ?_
 rintro r w' ⟨rfl,x9,rfl⟩
 go_wp2
 exact⟨rfl,rfl,by rw [hz3.out,plus_plus,plus_plus];exact⟨_,rfl⟩⟩
set_option maxRecDepth 100000 in
set_option maxHeartbeats 8000000 in
theorem leaf_lit (p0:Option Addr) (n0 c0:Nat) (p1:Option Addr) (n1 c1:Nat) (p2:Option Addr) (n2 c2:Nat) (p3:Option Addr) (n3 c3:Nat) (p4:Option Addr) (n4 c4:Nat) (p5:Option Addr) (n5 c5:Nat) (p6:Option Addr) (n6 c6:Nat) (act:Int) (lw lh ll:Int) (hd nm:ByteArray) (eh el:Int) (ep:Option Addr) (en ec:Nat)  (w:World)
  (hN:Kp Tryz.prog w 94 #[.agg #[.slice p0 n0 c0,.slice p1 n1 c1,.slice p2 n2 c2,.slice p3 n3 c3,.slice p4 n4 c4,.slice p5 n5 c5,.slice p6 n6 c6],.int .i64 act,.agg #[.int .u8 1,.int .i64 lw,.int .u64 lh,.int .u64 ll,.string hd,.string nm,.int .i64 eh,.int .i64 el,.slice ep en ec]] (.int .i64 0)) :
  KpE Tryz.prog w 47 #[.agg #[.slice p0 n0 c0,.slice p1 n1 c1,.slice p2 n2 c2,.slice p3 n3 c3,.slice p4 n4 c4,.slice p5 n5 c5,.slice p6 n6 c6,.int .i64 act],.agg #[.int .u8 1,.int .i64 lw,.int .u64 lh,.int .u64 ll,.string hd,.string nm,.int .i64 eh,.int .i64 el,.slice ep en ec]] (.returned (.agg #[.int .i64 lw,.bool false,.bool (lw == 0)])):=by
 intro y0
 have hN:=hN.up y0
 obtain⟨V,hV⟩:∃ V,plus w y0=V:=⟨_,rfl⟩
 rw [hV] at hN ⊢
 clear hV
 have hN':=Lib.hid hN
 clear hN
 go_enter Tryz.func47,Tryz.ntmps47
 go_wp2_with fail
 obtain⟨X,Y0,hX,⟨zX,hzX⟩,-,ca,cb,cc,fc⟩:=box3f V _ _ _ 90 45 75
 rw [hX]
 have g0:=ca 0 _ rfl
 have g1:=ca 1 _ rfl
 have g2:=ca 2 _ rfl
 have g3:=ca 3 _ rfl
 have g4:=ca 4 _ rfl
 have g5:=ca 5 _ rfl
 have g6:=ca 6 _ rfl
 have g7:=ca 7 _ rfl
 have b0:=cb 0 _ rfl
 have b1:=cb 1 _ rfl
 have b2:=cb 2 _ rfl
 have b3:=cb 3 _ rfl
 have b4:=cb 4 _ rfl
 have b5:=cb 5 _ rfl
 have b6:=cb 6 _ rfl
 have b7:=cb 7 _ rfl
 have b8:=cb 8 _ rfl
 have hR:=Lib.hid (rb_of ⟨zX,hzX⟩ (show V.heap.size≤V.heap.size+1+1 by omega) cc fc)
 have qhN:=Lib.hid (kp_at hzX hN'.out)
 have hz3:=Lib.hid hzX
 clear hX ca cb cc fc hzX hN'
 refine (qhN.out Y0).mono ?_
 rintro r w' ⟨rfl,x1,rfl⟩
 clear qhN
 go_wp2_with fail
 refine (need_yes X 7 x1).mono ?_
 rintro r w' ⟨rfl,x2,rfl⟩
 rw [plus_plus]
 obtain⟨Y2,hY2⟩:∃ Y:Ext,(⟨Ext.blocks x1++Ext.blocks x2,Ext.draws x2⟩:Ext)=Y:=⟨_,rfl⟩
 rw [hY2]
 clear hY2
 have hRU:=hR.out Y2
 have r0:=hRU.r0
 have r1:=hRU.r1
 have r2:=hRU.r2
 have rf:=hRU.rf
 have hRU':=Lib.hid hRU
 clear hRU hR
 go_wp2
 obtain⟨Z,hZ,g0,g1,g2,hV⟩:=hRU'.out.set ⟨lw,false,(lw == 0)⟩
 simp only at hZ
 rw [hZ]
 clear hZ
 exact bodyPost_ret (v:=.agg #[.int .i64 lw,.bool false,.bool (lw == 0)]) (by simp [results,Tryz.results47,go_sem,g0,g1,g2]) rfl ⟨rfl,hV⟩
set_option maxRecDepth 100000 in
set_option maxHeartbeats 8000000 in
theorem leaf_field (p0:Option Addr) (n0 c0:Nat) (p1:Option Addr) (n1 c1:Nat) (p2:Option Addr) (n2 c2:Nat) (p3:Option Addr) (n3 c3:Nat) (p4:Option Addr) (n4 c4:Nat) (p5:Option Addr) (n5 c5:Nat) (p6:Option Addr) (n6 c6:Nat) (act:Int) (lw lh ll:Int) (hd nm:ByteArray) (eh el:Int) (ep:Option Addr) (en ec:Nat) (tw:Int) (w:World)
  (k:Kp Tryz.prog w 125 #[.agg #[.slice p0 n0 c0,.slice p1 n1 c1,.slice p2 n2 c2,.slice p3 n3 c3,.slice p4 n4 c4,.slice p5 n5 c5,.slice p6 n6 c6,.int .i64 act],.string hd,.string nm] (.int .i64 tw))
  (hN:Kp Tryz.prog w 94 #[.agg #[.slice p0 n0 c0,.slice p1 n1 c1,.slice p2 n2 c2,.slice p3 n3 c3,.slice p4 n4 c4,.slice p5 n5 c5,.slice p6 n6 c6],.int .i64 act,.agg #[.int .u8 2,.int .i64 lw,.int .u64 lh,.int .u64 ll,.string hd,.string nm,.int .i64 eh,.int .i64 el,.slice ep en ec]] (.int .i64 0)) :
  KpE Tryz.prog w 47 #[.agg #[.slice p0 n0 c0,.slice p1 n1 c1,.slice p2 n2 c2,.slice p3 n3 c3,.slice p4 n4 c4,.slice p5 n5 c5,.slice p6 n6 c6,.int .i64 act],.agg #[.int .u8 2,.int .i64 lw,.int .u64 lh,.int .u64 ll,.string hd,.string nm,.int .i64 eh,.int .i64 el,.slice ep en ec]] (.returned (.agg #[.int .i64 tw,.bool false,.bool false])):=by
 intro y0
 have hN:=hN.up y0
 have k:=k.up y0
 obtain⟨V,hV⟩:∃ V,plus w y0=V:=⟨_,rfl⟩
 rw [hV] at hN k ⊢
 clear hV
 have hN':=Lib.hid hN
 have k':=Lib.hid k
 clear hN k
 go_enter Tryz.func47,Tryz.ntmps47
 go_wp2_with fail
 obtain⟨X,Y0,hX,⟨zX,hzX⟩,-,ca,cb,cc,fc⟩:=box3f V _ _ _ 90 45 75
 rw [hX]
 have g0:=ca 0 _ rfl
 have g1:=ca 1 _ rfl
 have g2:=ca 2 _ rfl
 have g3:=ca 3 _ rfl
 have g4:=ca 4 _ rfl
 have g5:=ca 5 _ rfl
 have g6:=ca 6 _ rfl
 have g7:=ca 7 _ rfl
 have b0:=cb 0 _ rfl
 have b1:=cb 1 _ rfl
 have b2:=cb 2 _ rfl
 have b3:=cb 3 _ rfl
 have b4:=cb 4 _ rfl
 have b5:=cb 5 _ rfl
 have b6:=cb 6 _ rfl
 have b7:=cb 7 _ rfl
 have b8:=cb 8 _ rfl
 have hR:=Lib.hid (rb_of ⟨zX,hzX⟩ (show V.heap.size≤V.heap.size+1+1 by omega) cc fc)
 have qhN:=Lib.hid (kp_at hzX hN'.out)
 have qk:=Lib.hid (kp_at hzX k'.out)
 have hz3:=Lib.hid hzX
 clear hX ca cb cc fc hzX hN' k'
 refine (qhN.out Y0).mono ?_
 rintro r w' ⟨rfl,x1,rfl⟩
 clear qhN
 go_wp2_with fail
 refine (need_yes X 7 x1).mono ?_
 rintro r w' ⟨rfl,x2,rfl⟩
 rw [plus_plus]
 obtain⟨Y2,hY2⟩:∃ Y:Ext,(⟨Ext.blocks x1++Ext.blocks x2,Ext.draws x2⟩:Ext)=Y:=⟨_,rfl⟩
 rw [hY2]
 clear hY2
 go_wp2_with fail
 refine (qk.out Y2).mono ?_
 rintro r w' ⟨rfl,x3,rfl⟩
 clear qk
 go_wp2_with fail
 refine (t_bits tw X x3).mono ?_
 rintro r w' ⟨rfl,x4,rfl⟩
 rw [plus_plus]
 obtain⟨Y4,hY4⟩:∃ Y:Ext,(⟨Ext.blocks x3++Ext.blocks x4,Ext.draws x4⟩:Ext)=Y:=⟨_,rfl⟩
 rw [hY4]
 clear hY4
 simp only [Ty.v,tyW]
 have hRU:=hR.out Y4
 have r0:=hRU.r0
 have r1:=hRU.r1
 have r2:=hRU.r2
 have rf:=hRU.rf
 have hRU':=Lib.hid hRU
 clear hRU hR
 go_wp2
 obtain⟨Z,hZ,g0,g1,g2,hV⟩:=hRU'.out.set ⟨tw,false,false⟩
 simp only at hZ
 rw [hZ]
 clear hZ
 exact bodyPost_ret (v:=.agg #[.int .i64 tw,.bool false,.bool false]) (by simp [results,Tryz.results47,go_sem,g0,g1,g2]) rfl ⟨rfl,hV⟩
set_option maxRecDepth 100000 in
set_option maxHeartbeats 8000000 in
theorem leaf_meta (p0:Option Addr) (n0 c0:Nat) (p1:Option Addr) (n1 c1:Nat) (p2:Option Addr) (n2 c2:Nat) (p3:Option Addr) (n3 c3:Nat) (p4:Option Addr) (n4 c4:Nat) (p5:Option Addr) (n5 c5:Nat) (p6:Option Addr) (n6 c6:Nat) (act:Int) (lw lh ll:Int) (hd nm:ByteArray) (eh el:Int) (ep:Option Addr) (en ec:Nat) (tw:Int) (w:World)
  (k:Kp Tryz.prog w 126 #[.agg #[.slice p0 n0 c0,.slice p1 n1 c1,.slice p2 n2 c2,.slice p3 n3 c3,.slice p4 n4 c4,.slice p5 n5 c5,.slice p6 n6 c6,.int .i64 act],.string nm] (.int .i64 tw))
  (hN:Kp Tryz.prog w 94 #[.agg #[.slice p0 n0 c0,.slice p1 n1 c1,.slice p2 n2 c2,.slice p3 n3 c3,.slice p4 n4 c4,.slice p5 n5 c5,.slice p6 n6 c6],.int .i64 act,.agg #[.int .u8 3,.int .i64 lw,.int .u64 lh,.int .u64 ll,.string hd,.string nm,.int .i64 eh,.int .i64 el,.slice ep en ec]] (.int .i64 0)) :
  KpE Tryz.prog w 47 #[.agg #[.slice p0 n0 c0,.slice p1 n1 c1,.slice p2 n2 c2,.slice p3 n3 c3,.slice p4 n4 c4,.slice p5 n5 c5,.slice p6 n6 c6,.int .i64 act],.agg #[.int .u8 3,.int .i64 lw,.int .u64 lh,.int .u64 ll,.string hd,.string nm,.int .i64 eh,.int .i64 el,.slice ep en ec]] (.returned (.agg #[.int .i64 tw,.bool false,.bool false])):=by
 intro y0
 have hN:=hN.up y0
 have k:=k.up y0
 obtain⟨V,hV⟩:∃ V,plus w y0=V:=⟨_,rfl⟩
 rw [hV] at hN k ⊢
 clear hV
 have hN':=Lib.hid hN
 have k':=Lib.hid k
 clear hN k
 go_enter Tryz.func47,Tryz.ntmps47
 go_wp2_with fail
 obtain⟨X,Y0,hX,⟨zX,hzX⟩,-,ca,cb,cc,fc⟩:=box3f V _ _ _ 90 45 75
 rw [hX]
 have g0:=ca 0 _ rfl
 have g1:=ca 1 _ rfl
 have g2:=ca 2 _ rfl
 have g3:=ca 3 _ rfl
 have g4:=ca 4 _ rfl
 have g5:=ca 5 _ rfl
 have g6:=ca 6 _ rfl
 have g7:=ca 7 _ rfl
 have b0:=cb 0 _ rfl
 have b1:=cb 1 _ rfl
 have b2:=cb 2 _ rfl
 have b3:=cb 3 _ rfl
 have b4:=cb 4 _ rfl
 have b5:=cb 5 _ rfl
 have b6:=cb 6 _ rfl
 have b7:=cb 7 _ rfl
 have b8:=cb 8 _ rfl
 have hR:=Lib.hid (rb_of ⟨zX,hzX⟩ (show V.heap.size≤V.heap.size+1+1 by omega) cc fc)
 have qhN:=Lib.hid (kp_at hzX hN'.out)
 have qk:=Lib.hid (kp_at hzX k'.out)
 have hz3:=Lib.hid hzX
 clear hX ca cb cc fc hzX hN' k'
 refine (qhN.out Y0).mono ?_
 rintro r w' ⟨rfl,x1,rfl⟩
 clear qhN
 go_wp2_with fail
 refine (need_yes X 7 x1).mono ?_
 rintro r w' ⟨rfl,x2,rfl⟩
 rw [plus_plus]
 obtain⟨Y2,hY2⟩:∃ Y:Ext,(⟨Ext.blocks x1++Ext.blocks x2,Ext.draws x2⟩:Ext)=Y:=⟨_,rfl⟩
 rw [hY2]
 clear hY2
 go_wp2_with fail
 refine (qk.out Y2).mono ?_
 rintro r w' ⟨rfl,x3,rfl⟩
 clear qk
 go_wp2_with fail
 refine (t_bits tw X x3).mono ?_
 rintro r w' ⟨rfl,x4,rfl⟩
 rw [plus_plus]
 obtain⟨Y4,hY4⟩:∃ Y:Ext,(⟨Ext.blocks x3++Ext.blocks x4,Ext.draws x4⟩:Ext)=Y:=⟨_,rfl⟩
 rw [hY4]
 clear hY4
 simp only [Ty.v,tyW]
 have hRU:=hR.out Y4
 have r0:=hRU.r0
 have r1:=hRU.r1
 have r2:=hRU.r2
 have rf:=hRU.rf
 have hRU':=Lib.hid hRU
 clear hRU hR
 go_wp2
 obtain⟨Z,hZ,g0,g1,g2,hV⟩:=hRU'.out.set ⟨tw,false,false⟩
 simp only at hZ
 rw [hZ]
 clear hZ
 exact bodyPost_ret (v:=.agg #[.int .i64 tw,.bool false,.bool false]) (by simp [results,Tryz.results47,go_sem,g0,g1,g2]) rfl ⟨rfl,hV⟩
set_option maxRecDepth 100000 in
set_option maxHeartbeats 8000000 in
theorem leaf_param (p0:Option Addr) (n0 c0:Nat) (p1:Option Addr) (n1 c1:Nat) (p2:Option Addr) (n2 c2:Nat) (p4:Option Addr) (n4 c4:Nat) (p5:Option Addr) (n5 c5:Nat) (p6:Option Addr) (n6 c6:Nat) (pa:Addr) (n nc:Nat) (lw lh ll:Int) (hd nm:ByteArray) (eh el:Int) (ep:Option Addr) (en ec:Nat) (xn yn:ByteArray) (a i:Nat) (fp:Addr) (fn fc:Nat) (bp:Option Addr) (bn bc:Nat) (tw:Int) (w:World)
  (ha:a < n)
  (hi:i < fn)
  (m1:CellsAt w (pa.add (a*3)) [.string xn,.slice (some fp) fn fc,.slice bp bn bc])
  (m2:CellsAt w (fp.add (i*2)) [.string yn,.int .i64 tw])
  (k:Kp Tryz.prog w 91 #[.agg #[.slice p0 n0 c0,.slice p1 n1 c1,.slice p2 n2 c2,.slice (some pa) n nc,.slice p4 n4 c4,.slice p5 n5 c5,.slice p6 n6 c6],.int .i64 (a:Int),.string nm] (.int .i64 (i:Int)))
  (hN:Kp Tryz.prog w 94 #[.agg #[.slice p0 n0 c0,.slice p1 n1 c1,.slice p2 n2 c2,.slice (some pa) n nc,.slice p4 n4 c4,.slice p5 n5 c5,.slice p6 n6 c6],.int .i64 (a:Int),.agg #[.int .u8 4,.int .i64 lw,.int .u64 lh,.int .u64 ll,.string hd,.string nm,.int .i64 eh,.int .i64 el,.slice ep en ec]] (.int .i64 0)) :
  KpE Tryz.prog w 47 #[.agg #[.slice p0 n0 c0,.slice p1 n1 c1,.slice p2 n2 c2,.slice (some pa) n nc,.slice p4 n4 c4,.slice p5 n5 c5,.slice p6 n6 c6,.int .i64 (a:Int)],.agg #[.int .u8 4,.int .i64 lw,.int .u64 lh,.int .u64 ll,.string hd,.string nm,.int .i64 eh,.int .i64 el,.slice ep en ec]] (.returned (.agg #[.int .i64 tw,.bool false,.bool false])):=by
 intro y0
 have hN:=hN.up y0
 have m1:=m1.plus y0
 have m2:=m2.plus y0
 have k:=k.up y0
 obtain⟨V,hV⟩:∃ V,plus w y0=V:=⟨_,rfl⟩
 rw [hV] at hN m1 m2 k ⊢
 clear hV
 have hN':=Lib.hid hN
 have m1':=Lib.hid m1
 have m2':=Lib.hid m2
 have k':=Lib.hid k
 clear hN m1 m2 k
 go_enter Tryz.func47,Tryz.ntmps47
 go_wp2_with fail
 obtain⟨X,Y0,hX,⟨zX,hzX⟩,-,ca,cb,cc,fc⟩:=box3f V _ _ _ 90 45 75
 rw [hX]
 have g0:=ca 0 _ rfl
 have g1:=ca 1 _ rfl
 have g2:=ca 2 _ rfl
 have g3:=ca 3 _ rfl
 have g4:=ca 4 _ rfl
 have g5:=ca 5 _ rfl
 have g6:=ca 6 _ rfl
 have g7:=ca 7 _ rfl
 have b0:=cb 0 _ rfl
 have b1:=cb 1 _ rfl
 have b2:=cb 2 _ rfl
 have b3:=cb 3 _ rfl
 have b4:=cb 4 _ rfl
 have b5:=cb 5 _ rfl
 have b6:=cb 6 _ rfl
 have b7:=cb 7 _ rfl
 have b8:=cb 8 _ rfl
 have hR:=Lib.hid (rb_of ⟨zX,hzX⟩ (show V.heap.size≤V.heap.size+1+1 by omega) cc fc)
 have qhN:=Lib.hid (kp_at hzX hN'.out)
 have um1:=cells_up hzX m1'.out
 have dm10:=fun y=>(um1.plus y).c0 _ rfl
 have dm11:=fun y=>(um1.plus y).cs 0 _ rfl
 clear um1
 have um2:=cells_up hzX m2'.out
 have dm20:=fun y=>(um2.plus y).c0 _ rfl
 have dm21:=fun y=>(um2.plus y).cs 0 _ rfl
 clear um2
 have qk:=Lib.hid (kp_at hzX k'.out)
 have hz3:=Lib.hid hzX
 clear hX ca cb cc fc hzX hN' m1' m2' k'
 refine (qhN.out Y0).mono ?_
 rintro r w' ⟨rfl,x1,rfl⟩
 clear qhN
 go_wp2_with fail
 refine (need_yes X 7 x1).mono ?_
 rintro r w' ⟨rfl,x2,rfl⟩
 rw [plus_plus]
 obtain⟨Y2,hY2⟩:∃ Y:Ext,(⟨Ext.blocks x1++Ext.blocks x2,Ext.draws x2⟩:Ext)=Y:=⟨_,rfl⟩
 rw [hY2]
 clear hY2
 have hneg:¬ ((a:Int) < 0):=by omega
 have hneg2:¬ ((i:Int) < 0):=by omega
 go_upto_region 10 with (fail)
 refine wp_region_own_tail 18 (by kernel_rfl) (by kernel_rfl) ?_
 simp only [List.take_succ_cons,List.take_zero,List.drop_succ_cons,List.drop_zero]
 repeat (go_big_quiet_step (first|(with_reducible exact qk.out _)))
 refine wpQuiet_nil ?_
 rintro _ ⟨y7,rfl⟩
 clear qk
 go_wp2_with fail
 refine (t_bits tw X y7).mono ?_
 rintro r w' ⟨rfl,x4,rfl⟩
 rw [plus_plus]
 obtain⟨Y4,hY4⟩:∃ Y:Ext,(⟨Ext.blocks y7++Ext.blocks x4,Ext.draws x4⟩:Ext)=Y:=⟨_,rfl⟩
 rw [hY4]
 clear hY4
 simp only [Ty.v,tyW]
 have hRU:=hR.out Y4
 have r0:=hRU.r0
 have r1:=hRU.r1
 have r2:=hRU.r2
 have rf:=hRU.rf
 have hRU':=Lib.hid hRU
 clear hRU hR
 go_wp2
 obtain⟨Z,hZ,g0,g1,g2,hV⟩:=hRU'.out.set ⟨tw,false,false⟩
 simp only at hZ
 rw [hZ]
 clear hZ
 exact bodyPost_ret (v:=.agg #[.int .i64 tw,.bool false,.bool false]) (by simp [results,Tryz.results47,go_sem,g0,g1,g2]) rfl ⟨rfl,hV⟩
set_option maxRecDepth 100000 in
set_option maxHeartbeats 8000000 in
theorem leaf_valid (p0:Option Addr) (n0 c0:Nat) (p1:Option Addr) (n1 c1:Nat) (p2:Option Addr) (n2 c2:Nat) (p3:Option Addr) (n3 c3:Nat) (p4:Option Addr) (n4 c4:Nat) (p5:Option Addr) (n5 c5:Nat) (p6:Option Addr) (n6 c6:Nat) (act:Int) (lw lh ll:Int) (hd nm:ByteArray) (eh el:Int) (ep:Option Addr) (en ec:Nat)  (w:World)
  (hN:Kp Tryz.prog w 94 #[.agg #[.slice p0 n0 c0,.slice p1 n1 c1,.slice p2 n2 c2,.slice p3 n3 c3,.slice p4 n4 c4,.slice p5 n5 c5,.slice p6 n6 c6],.int .i64 act,.agg #[.int .u8 6,.int .i64 lw,.int .u64 lh,.int .u64 ll,.string hd,.string nm,.int .i64 eh,.int .i64 el,.slice ep en ec]] (.int .i64 0)) :
  KpE Tryz.prog w 47 #[.agg #[.slice p0 n0 c0,.slice p1 n1 c1,.slice p2 n2 c2,.slice p3 n3 c3,.slice p4 n4 c4,.slice p5 n5 c5,.slice p6 n6 c6,.int .i64 act],.agg #[.int .u8 6,.int .i64 lw,.int .u64 lh,.int .u64 ll,.string hd,.string nm,.int .i64 eh,.int .i64 el,.slice ep en ec]] (.returned (.agg #[.int .i64 0,.bool true,.bool false])):=by
 intro y0
 have hN:=hN.up y0
 obtain⟨V,hV⟩:∃ V,plus w y0=V:=⟨_,rfl⟩
 rw [hV] at hN ⊢
 clear hV
 have hN':=Lib.hid hN
 clear hN
 go_enter Tryz.func47,Tryz.ntmps47
 go_wp2_with fail
 obtain⟨X,Y0,hX,⟨zX,hzX⟩,-,ca,cb,cc,fc⟩:=box3f V _ _ _ 90 45 75
 rw [hX]
 have g0:=ca 0 _ rfl
 have g1:=ca 1 _ rfl
 have g2:=ca 2 _ rfl
 have g3:=ca 3 _ rfl
 have g4:=ca 4 _ rfl
 have g5:=ca 5 _ rfl
 have g6:=ca 6 _ rfl
 have g7:=ca 7 _ rfl
 have b0:=cb 0 _ rfl
 have b1:=cb 1 _ rfl
 have b2:=cb 2 _ rfl
 have b3:=cb 3 _ rfl
 have b4:=cb 4 _ rfl
 have b5:=cb 5 _ rfl
 have b6:=cb 6 _ rfl
 have b7:=cb 7 _ rfl
 have b8:=cb 8 _ rfl
 have hR:=Lib.hid (rb_of ⟨zX,hzX⟩ (show V.heap.size≤V.heap.size+1+1 by omega) cc fc)
 have qhN:=Lib.hid (kp_at hzX hN'.out)
 have hz3:=Lib.hid hzX
 clear hX ca cb cc fc hzX hN'
 refine (qhN.out Y0).mono ?_
 rintro r w' ⟨rfl,x1,rfl⟩
 clear qhN
 go_wp2_with fail
 refine (need_yes X 7 x1).mono ?_
 rintro r w' ⟨rfl,x2,rfl⟩
 rw [plus_plus]
 obtain⟨Y2,hY2⟩:∃ Y:Ext,(⟨Ext.blocks x1++Ext.blocks x2,Ext.draws x2⟩:Ext)=Y:=⟨_,rfl⟩
 rw [hY2]
 clear hY2
 go_wp2_with fail
 refine (t_truth X Y2).mono ?_
 rintro r w' ⟨rfl,x4,rfl⟩
 rw [plus_plus]
 obtain⟨Y4,hY4⟩:∃ Y:Ext,(⟨Ext.blocks Y2++Ext.blocks x4,Ext.draws x4⟩:Ext)=Y:=⟨_,rfl⟩
 rw [hY4]
 clear hY4
 simp only [Ty.v]
 have hRU:=hR.out Y4
 have r0:=hRU.r0
 have r1:=hRU.r1
 have r2:=hRU.r2
 have rf:=hRU.rf
 have hRU':=Lib.hid hRU
 clear hRU hR
 go_wp2
 obtain⟨Z,hZ,g0,g1,g2,hV⟩:=hRU'.out.set ⟨0,true,false⟩
 simp only at hZ
 rw [hZ]
 clear hZ
 exact bodyPost_ret (v:=.agg #[.int .i64 0,.bool true,.bool false]) (by simp [results,Tryz.results47,go_sem,g0,g1,g2]) rfl ⟨rfl,hV⟩
set_option maxRecDepth 100000 in
set_option maxHeartbeats 8000000 in
theorem leaf_port (p0:Option Addr) (n0 c0:Nat) (p1:Option Addr) (n1 c1:Nat) (p2:Option Addr) (n2 c2:Nat) (p3:Option Addr) (n3 c3:Nat) (p4:Option Addr) (n4 c4:Nat) (p5:Option Addr) (n5 c5:Nat) (p6:Option Addr) (n6 c6:Nat) (act:Int) (lw lh ll:Int) (hd nm:ByteArray) (eh el:Int) (ep:Option Addr) (en ec:Nat) (op:Int) (w:World)
  (o1:(op == 1)=false)
  (o2:(op == 2)=false)
  (o3:(op == 3)=false)
  (o4:(op == 4)=false)
  (o6:(op == 6)=false)
  (hN:Kp Tryz.prog w 94 #[.agg #[.slice p0 n0 c0,.slice p1 n1 c1,.slice p2 n2 c2,.slice p3 n3 c3,.slice p4 n4 c4,.slice p5 n5 c5,.slice p6 n6 c6],.int .i64 act,.agg #[.int .u8 op,.int .i64 lw,.int .u64 lh,.int .u64 ll,.string hd,.string nm,.int .i64 eh,.int .i64 el,.slice ep en ec]] (.int .i64 0)) :
  KpE Tryz.prog w 47 #[.agg #[.slice p0 n0 c0,.slice p1 n1 c1,.slice p2 n2 c2,.slice p3 n3 c3,.slice p4 n4 c4,.slice p5 n5 c5,.slice p6 n6 c6,.int .i64 act],.agg #[.int .u8 op,.int .i64 lw,.int .u64 lh,.int .u64 ll,.string hd,.string nm,.int .i64 eh,.int .i64 el,.slice ep en ec]] (.returned (.agg #[.int .i64 9,.bool false,.bool false])):=by
 intro y0
 have hN:=hN.up y0
 obtain⟨V,hV⟩:∃ V,plus w y0=V:=⟨_,rfl⟩
 rw [hV] at hN ⊢
 clear hV
 have hN':=Lib.hid hN
 clear hN
 go_enter Tryz.func47,Tryz.ntmps47
 go_wp2_with fail
 obtain⟨X,Y0,hX,⟨zX,hzX⟩,-,ca,cb,cc,fc⟩:=box3f V _ _ _ 90 45 75
 rw [hX]
 have g0:=ca 0 _ rfl
 have g1:=ca 1 _ rfl
 have g2:=ca 2 _ rfl
 have g3:=ca 3 _ rfl
 have g4:=ca 4 _ rfl
 have g5:=ca 5 _ rfl
 have g6:=ca 6 _ rfl
 have g7:=ca 7 _ rfl
 have b0:=cb 0 _ rfl
 have b1:=cb 1 _ rfl
 have b2:=cb 2 _ rfl
 have b3:=cb 3 _ rfl
 have b4:=cb 4 _ rfl
 have b5:=cb 5 _ rfl
 have b6:=cb 6 _ rfl
 have b7:=cb 7 _ rfl
 have b8:=cb 8 _ rfl
 have hR:=Lib.hid (rb_of ⟨zX,hzX⟩ (show V.heap.size≤V.heap.size+1+1 by omega) cc fc)
 have qhN:=Lib.hid (kp_at hzX hN'.out)
 have hz3:=Lib.hid hzX
 clear hX ca cb cc fc hzX hN'
 refine (qhN.out Y0).mono ?_
 rintro r w' ⟨rfl,x1,rfl⟩
 clear qhN
 go_wp2_with fail
 refine (need_yes X 7 x1).mono ?_
 rintro r w' ⟨rfl,x2,rfl⟩
 rw [plus_plus]
 obtain⟨Y2,hY2⟩:∃ Y:Ext,(⟨Ext.blocks x1++Ext.blocks x2,Ext.draws x2⟩:Ext)=Y:=⟨_,rfl⟩
 rw [hY2]
 clear hY2
 go_wp2_with fail
 refine (t_bits 9 X Y2).mono ?_
 rintro r w' ⟨rfl,x4,rfl⟩
 rw [plus_plus]
 obtain⟨Y4,hY4⟩:∃ Y:Ext,(⟨Ext.blocks Y2++Ext.blocks x4,Ext.draws x4⟩:Ext)=Y:=⟨_,rfl⟩
 rw [hY4]
 clear hY4
 simp only [Ty.v,tyW]
 have hRU:=hR.out Y4
 have r0:=hRU.r0
 have r1:=hRU.r1
 have r2:=hRU.r2
 have rf:=hRU.rf
 have hRU':=Lib.hid hRU
 clear hRU hR
 go_wp2
 obtain⟨Z,hZ,g0,g1,g2,hV⟩:=hRU'.out.set ⟨9,false,false⟩
 simp only at hZ
 rw [hZ]
 clear hZ
 exact bodyPost_ret (v:=.agg #[.int .i64 9,.bool false,.bool false]) (by simp [results,Tryz.results47,go_sem,g0,g1,g2]) rfl ⟨rfl,hV⟩
theorem leaf_is (p:Pr) (act:Int) (e:Ex):(leafT p act e.op e.lit.w e.head e.name).1=if isB p act e then 0 else 7:=by
 unfold leafT isB
 by_cases o1:e.op=1
 ·simp [o1]
 rw [if_neg o1]
 by_cases o2:e.op=2
 ·rw [if_pos o2,if_pos o2]
  by_cases q:fieldI p (hdI p.headers.l e.head) e.name=-1 <;> simp [q]
 rw [if_neg o2,if_neg o2]
 by_cases o3:e.op=3
 ·rw [if_pos o3,if_pos o3]
  by_cases q:fdI p.metas.l e.name=-1 <;> simp [q]
 rw [if_neg o3,if_neg o3]
 by_cases o4:e.op=4
 ·rw [if_pos o4,if_pos o4]
  by_cases q:paramI p act e.name=-1 <;> simp [q]
 rw [if_neg o4,if_neg o4]
 by_cases o6:e.op=6
 ·rw [if_pos o6,if_pos o6]
  by_cases q:hdI p.headers.l e.head=-1 <;> simp [q]
 rw [if_neg o6,if_neg o6]
 rfl
theorem t_leaf (p:Pr) (w:World) (hin:p.In w) (hz:p.sz≤1048576) (act:Int) (e:Ex) (he:e.In w) (hw:e.wt≤1048576) (h0:e.args=[]) :
  KpE Tryz.prog w 47 #[scV p act,e.val] (endE (leafT p act e.op e.lit.w e.head e.name).1 (leafT p act e.op e.lit.w e.head e.name).2.v):=by
 have hN:=q_Names p w hin hz act e he hw
 have hL:=leaf_is p act e
 have hth:e.there (isB p act)=isB p act e:=by rw [Ex.there_eq,h0];simp
 rw [hth] at hN
 by_cases hb:¬ isB p act e=true
 ·rw [if_neg hb] at hN hL
  rw [hL,endE,if_neg (by decide)]
  exact leaf_no _ _ _ _ _ _ _ _ _ _ _ _ _ _ _ _ _ _ _ _ _ _ _ _ _ _ _ _ _ _ _ _ _ w hN
 replace hb:=Classical.not_not.1 hb
 rw [if_pos hb] at hN hL
 rw [hL,endE,if_pos rfl]
 have q2:e.op=2→fieldI p (hdI p.headers.l e.head) e.name≠-1:=fun o=>by simpa [isB,o] using hb
 have q3:e.op=3→fdI p.metas.l e.name≠-1:=fun o=>by simpa [isB,o] using hb
 have q4:e.op=4→paramI p act e.name≠-1:=fun o=>by simpa [isB,o] using hb
 have q6:e.op=6→hdI p.headers.l e.head≠-1:=fun o=>by simpa [isB,o] using hb
 clear hb
 obtain⟨op,⟨lw,lh,ll⟩,hd,nm,eh,el,ep,ec,eargs⟩:=e
 simp only [Ex.val,Ex.cells,Ex.op,Ex.lit,Ex.head,Ex.name,Ex.hi,Ex.lo,Ex.p,Ex.args,Ex.cap] at hN q2 q3 q4 q6 ⊢
 by_cases o1:op=1
 ·subst o1
  exact leaf_lit _ _ _ _ _ _ _ _ _ _ _ _ _ _ _ _ _ _ _ _ _ _ _ _ _ _ _ _ _ _ _ _ w hN
 by_cases o2:op=2
 ·subst o2
  have q:=q2 rfl
  have hv:leafT p act 2 lw hd nm=(0,tyW (hdW p (hdI p.headers.l hd) (fieldI p (hdI p.headers.l hd) nm))):=by unfold leafT;rw [if_neg (by decide),if_pos rfl,if_neg q]
  rw [hv]
  exact leaf_field _ _ _ _ _ _ _ _ _ _ _ _ _ _ _ _ _ _ _ _ _ _ _ _ _ _ _ _ _ _ _ _ _ w (t_fieldWidth p w hin hz act hd nm q) hN
 by_cases o3:op=3
 ·subst o3
  have q:=q3 rfl
  have hv:leafT p act 3 lw hd nm=(0,tyW (widthF p.metas.l (fdI p.metas.l nm))):=by unfold leafT;rw [if_neg (by decide),if_neg (by decide),if_pos rfl,if_neg q]
  rw [hv]
  exact leaf_meta _ _ _ _ _ _ _ _ _ _ _ _ _ _ _ _ _ _ _ _ _ _ _ _ _ _ _ _ _ _ _ _ _ w (t_metaWidth p w hin hz act nm q) hN
 by_cases o4:op=4
 ·subst o4
  have q:=q4 rfl
  have hv:leafT p act 4 lw hd nm=(0,tyW (acW p act (paramI p act nm))):=by unfold leafT;rw [if_neg (by decide),if_neg (by decide),if_neg (by decide),if_pos rfl,if_neg q]
  rw [hv]
  obtain⟨k,x,i,y,g1,hx,g3,hy⟩:=param_found q
  have h2:=q_Param p w hin hz act nm
  subst g1
  rw [g3] at h2 ⊢
  have hm:=List.mem_of_getElem? hx
  obtain⟨pa,hp,hc⟩:=hin.actions.row k x hx
  obtain⟨fa,hfp,hc2⟩:=(hin.actions.kids x hm).params.row i y hy
  have hc1:CellsAt w (pa.add (k*3)) [.string x.name,.slice x.params.p x.params.l.length x.params.cap,.slice x.body.p x.body.l.length x.body.cap]:=hc
  have e:acW p (k:Int) (i:Int)=y.w:=by unfold acW;rw [Int.toNat_natCast,hx];exact fd_at hy
  rw [e]
  rw [hfp] at hc1
  rw [hp] at h2 hN
  unfold scV
  rw [hp]
  exact leaf_param _ _ _ _ _ _ _ _ _ _ _ _ _ _ _ _ _ _ _ _ _ _ _ _ _ _ _ _ _ _ _ _ _ k i _ _ _ _ _ _ _ w (List.getElem?_eq_some_iff.1 hx).1 (List.getElem?_eq_some_iff.1 hy).1 hc1 hc2 h2 hN
 by_cases o6:op=6
 ·subst o6
  have q:=q6 rfl
  have hv:leafT p act 6 lw hd nm=(0,⟨0,true,false⟩):=by unfold leafT;rw [if_neg (by decide),if_neg (by decide),if_neg (by decide),if_neg (by decide),if_pos rfl,if_neg q]
  rw [hv]
  exact leaf_valid _ _ _ _ _ _ _ _ _ _ _ _ _ _ _ _ _ _ _ _ _ _ _ _ _ _ _ _ _ _ _ _ w hN
 have hv:leafT p act op lw hd nm=(0,tyW 9):=by unfold leafT;rw [if_neg o1,if_neg o2,if_neg o3,if_neg o4,if_neg o6]
 rw [hv]
 exact leaf_port _ _ _ _ _ _ _ _ _ _ _ _ _ _ _ _ _ _ _ _ _ _ _ _ _ _ _ _ _ _ _ _ _ w (by simpa using o1) (by simpa using o2) (by simpa using o3) (by simpa using o4) (by simpa using o6) hN
section
variable {w W V:World} {va vb:Value} {f g:Nat→Bool} {b0 b1 b2 b3 b4 b5 b6 b7:Bool} {t5 t6 t8 t9 t10 t11:Value}
end
abbrev tyV (w:Int) (tr fr:Bool):Value:=.agg #[.int .i64 w,.bool tr,.bool fr]
abbrev tyR (r:Int × Ty):Value:=.tuple #[tyV r.2.w r.2.tr r.2.fr,.int .i64 r.1]
theorem lift8 {W W2:World} {z:Ext} {a:Addr} {v:Option Value} (hz:W2=plus W z) (h:∀ y,(plus W y).cell? a=v):∀ y,(plus W2 y).cell? a=v:=fun y=>by rw [hz,plus_plus];exact h _
end Go.Proofs.YtobhijbncchpiaaGreat

/-
  WHAT IS PROVED HERE: a part of the proof (made narrower and merged by program; the parts: Vu).
-/
import Derived.Test.YtobhijbncchpiaaGreatM19
namespace Go.Proofs.YtobhijbncchpiaaGreat
open Go.RowKit
/-- Called in whatever world that has more than this one, it ends so. -/
abbrev AtsE (V:World) (f:FuncId) (args:Array Value) (E:Ending):Prop:=∀ W,(∃ z,W=plus V z)→Calls Tryz.prog f args W fun e w'=>e=E∧∃ x,w'=plus W x
theorem atsE_of {V:World} {f:FuncId} {args:Array Value} {E:Ending} (h:KpE Tryz.prog V f args E):AtsE V f args E:=fun W ⟨z,hz⟩=>by subst hz;exact h z
theorem up_drew {V W:World} (h:∃ z,W=plus V z):∃ z,W.drew=plus V z:=by obtain⟨z,rfl⟩:=h;exact⟨⟨z.blocks,z.draws+1⟩,rfl⟩
theorem up_alloc {V W:World} (h:∃ z,W=plus V z) (o:Obj):∃ z,W.alloc o=plus V z:=by obtain⟨z,rfl⟩:=h;exact alloc_in o
theorem up_plus {V W:World} (h:∃ z,W=plus V z) (x:Ext):∃ z,plus W x=plus V z:=by obtain⟨z,rfl⟩:=h;exact⟨_,plus_plus _ _ _⟩
theorem up_self {V:World} (y:Ext):∃ z,plus V y=plus V z:=⟨y,rfl⟩
/-- A block of one's own, made behind this world, holds this type. -/
structure Got8 (X:World) (b:Nat) (t:Ty) (U:World):Prop where
 up:∃ z,U=plus X z
 lt:b < U.heap.size
 t0:U.cell? ⟨b,0,none⟩=some (.int .i64 t.w)
 t1:U.cell? ⟨b,1,none⟩=some (.bool t.tr)
 t2:U.cell? ⟨b,2,none⟩=some (.bool t.fr)
/-- A block of one's own, as it was made. -/
structure New8 (X:World) (b:Nat) (U:World):Prop where
 rb:RB X b U
 lt:b < U.heap.size
theorem New8.plus {X U:World} {b:Nat} (h:New8 X b U) (x:Ext):New8 X b (Go.Proofs.YtobhijbncchpiaaGreat.plus U x):=by
 obtain⟨⟨⟨z,rfl⟩,lo,r0,r1,r2,rf⟩,lt⟩:=h
 exact⟨⟨⟨_,plus_plus _ _ _⟩,lo,(cell_plus _ x b 0 lt).trans r0,(cell_plus _ x b 1 lt).trans r1,(cell_plus _ x b 2 lt).trans r2,fun o=>(frozen_plus _ x b o lt).trans (rf o)⟩,Nat.lt_of_lt_of_le lt (size_plus _ x)⟩
theorem new8_of {X U:World} (h:∃ z,U=Go.Proofs.YtobhijbncchpiaaGreat.plus X z):New8 X U.heap.size (U.alloc (.cells #[.int .i64 0,.bool false,.bool false] 75)):=by
 have hs:X.heap.size≤U.heap.size:=by obtain⟨z,rfl⟩:=h;exact size_plus _ _
 exact⟨⟨up_alloc h _,hs,cell_new U _ _ _ 0 rfl,cell_new U _ _ _ 1 rfl,cell_new U _ _ _ 2 rfl,fun o=>frozen_new U _ _ _ o rfl⟩,by simp⟩
theorem New8.set {X U:World} {b:Nat} (h:New8 X b U) (t:Ty):Got8 X b t (((U.setCell ⟨b,0,none⟩ (.int .i64 t.w)).setCell ⟨b,1,none⟩ (.bool t.tr)).setCell ⟨b,2,none⟩ (.bool t.fr)):=by
 obtain⟨Z,hZ,g0,g1,g2,hx⟩:=h.rb.set t
 refine⟨?_,?_,?_,?_,?_⟩
 ·rw [hZ];exact hx
 ·simpa using h.lt
 ·rw [hZ];exact g0
 ·rw [hZ];exact g1
 ·rw [hZ];exact g2
set_option maxRecDepth 100000 in
set_option maxHeartbeats 16000000 in
theorem typeOf_leaf (p0:Option Addr) (n0 c0:Nat) (p1:Option Addr) (n1 c1:Nat) (p2:Option Addr) (n2 c2:Nat) (p3:Option Addr) (n3 c3:Nat) (p4:Option Addr) (n4 c4:Nat) (p5:Option Addr) (n5 c5:Nat) (p6:Option Addr) (n6 c6:Nat) (act:Int) (lw lh ll:Int) (hd nm:ByteArray) (eh el:Int) (pa:Option Addr) (en ec:Nat) (op:Int) (tw:Int) (tt tf:Bool) (w:World)
  (h0:en=0)
  (k:KpE Tryz.prog w 47 #[.agg #[.slice p0 n0 c0,.slice p1 n1 c1,.slice p2 n2 c2,.slice p3 n3 c3,.slice p4 n4 c4,.slice p5 n5 c5,.slice p6 n6 c6,.int .i64 act],.agg #[.int .u8 op,.int .i64 lw,.int .u64 lh,.int .u64 ll,.string hd,.string nm,.int .i64 eh,.int .i64 el,.slice (pa) en ec]] (.returned (.agg #[.int .i64 tw,.bool tt,.bool tf]))) :
  KpE Tryz.prog w 28 #[.agg #[.slice p0 n0 c0,.slice p1 n1 c1,.slice p2 n2 c2,.slice p3 n3 c3,.slice p4 n4 c4,.slice p5 n5 c5,.slice p6 n6 c6,.int .i64 act],.agg #[.int .u8 op,.int .i64 lw,.int .u64 lh,.int .u64 ll,.string hd,.string nm,.int .i64 eh,.int .i64 el,.slice (pa) en ec]] (.returned (.agg #[.int .i64 tw,.bool tt,.bool tf])):=by
 intro y0
 have k:=k.up y0
 obtain⟨V,hV⟩:∃ V,plus w y0=V:=⟨_,rfl⟩
 rw [hV] at k ⊢
 clear hV
 have k':=Lib.hid k
 clear k
 go_enter Tryz.func28,Tryz.ntmps28
 go_upto_region 1 with (fail)
 obtain⟨X,Y0,hX,⟨zX,hzX⟩,-,ca,cb,cc,fc⟩:=box3f V _ _ _ 90 45 75
 rw [hX]
 have g0:=ca 0 _ rfl
 have g1:=ca 1 _ rfl
 have g2:=ca 2 _ rfl
 have g3:=ca 3 _ rfl
 have g4:=ca 4 _ rfl
 have g5:=ca 5 _ rfl
 have g6:=ca 6 _ rfl
 have g7:=ca 7 _ rfl
 have b0:=cb 0 _ rfl
 have b1:=cb 1 _ rfl
 have b2:=cb 2 _ rfl
 have b3:=cb 3 _ rfl
 have b4:=cb 4 _ rfl
 have b5:=cb 5 _ rfl
 have b6:=cb 6 _ rfl
 have b7:=cb 7 _ rfl
 have b8:=cb 8 _ rfl
 have hR:=Lib.hid (rb_of ⟨zX,hzX⟩ (show V.heap.size≤V.heap.size+1+1 by omega) cc fc)
 have qk:=Lib.hid (atsE_of (kpE_up hzX k'.out))
 have hz3:=Lib.hid hzX
 clear hX ca cb cc fc hzX k'
 subst h0
 go_wp2_with fail
 refine (qk.out _ (up_self _)).mono ?_
 rintro r w' ⟨rfl,x0,rfl⟩
 clear qk
 rw [plus_plus]
 obtain⟨x1,hx1⟩:∃ Y:Ext,(⟨Ext.blocks Y0++Ext.blocks x0,Ext.draws x0⟩:Ext)=Y:=⟨_,rfl⟩
 rw [hx1]
 clear hx1
 have hRU:=hR.out x1
 have r0:=hRU.r0
 have r1:=hRU.r1
 have r2:=hRU.r2
 have rf:=hRU.rf
 have hRU':=Lib.hid hRU
 clear hRU hR
 go_wp2
 obtain⟨Z,hZ,g0,g1,g2,hV⟩:=hRU'.out.set ⟨tw,tt,tf⟩
 simp only at hZ
 rw [hZ]
 clear hZ
 exact bodyPost_ret (v:=.agg #[.int .i64 tw,.bool tt,.bool tf]) (by simp [results,Tryz.results28,go_sem,g0,g1,g2]) rfl ⟨rfl,hV⟩
set_option maxRecDepth 100000 in
set_option maxHeartbeats 16000000 in
theorem typeOf_leafE (p0:Option Addr) (n0 c0:Nat) (p1:Option Addr) (n1 c1:Nat) (p2:Option Addr) (n2 c2:Nat) (p3:Option Addr) (n3 c3:Nat) (p4:Option Addr) (n4 c4:Nat) (p5:Option Addr) (n5 c5:Nat) (p6:Option Addr) (n6 c6:Nat) (act:Int) (lw lh ll:Int) (hd nm:ByteArray) (eh el:Int) (pa:Option Addr) (en ec:Nat) (op:Int) (r:Int) (w:World)
  (h0:en=0)
  (k:KpE Tryz.prog w 47 #[.agg #[.slice p0 n0 c0,.slice p1 n1 c1,.slice p2 n2 c2,.slice p3 n3 c3,.slice p4 n4 c4,.slice p5 n5 c5,.slice p6 n6 c6,.int .i64 act],.agg #[.int .u8 op,.int .i64 lw,.int .u64 lh,.int .u64 ll,.string hd,.string nm,.int .i64 eh,.int .i64 el,.slice (pa) en ec]] (gaveE r)) :
  KpE Tryz.prog w 28 #[.agg #[.slice p0 n0 c0,.slice p1 n1 c1,.slice p2 n2 c2,.slice p3 n3 c3,.slice p4 n4 c4,.slice p5 n5 c5,.slice p6 n6 c6,.int .i64 act],.agg #[.int .u8 op,.int .i64 lw,.int .u64 lh,.int .u64 ll,.string hd,.string nm,.int .i64 eh,.int .i64 el,.slice (pa) en ec]] (gaveE r):=by
 intro y0
 have k:=k.up y0
 obtain⟨V,hV⟩:∃ V,plus w y0=V:=⟨_,rfl⟩
 rw [hV] at k ⊢
 clear hV
 have k':=Lib.hid k
 clear k
 go_enter Tryz.func28,Tryz.ntmps28
 go_upto_region 1 with (fail)
 obtain⟨X,Y0,hX,⟨zX,hzX⟩,-,ca,cb,cc,fc⟩:=box3f V _ _ _ 90 45 75
 rw [hX]
 have g0:=ca 0 _ rfl
 have g1:=ca 1 _ rfl
 have g2:=ca 2 _ rfl
 have g3:=ca 3 _ rfl
 have g4:=ca 4 _ rfl
 have g5:=ca 5 _ rfl
 have g6:=ca 6 _ rfl
 have g7:=ca 7 _ rfl
 have b0:=cb 0 _ rfl
 have b1:=cb 1 _ rfl
 have b2:=cb 2 _ rfl
 have b3:=cb 3 _ rfl
 have b4:=cb 4 _ rfl
 have b5:=cb 5 _ rfl
 have b6:=cb 6 _ rfl
 have b7:=cb 7 _ rfl
 have b8:=cb 8 _ rfl
 have hR:=Lib.hid (rb_of ⟨zX,hzX⟩ (show V.heap.size≤V.heap.size+1+1 by omega) cc fc)
 have qk:=Lib.hid (atsE_of (kpE_up hzX k'.out))
 have hz3:=Lib.hid hzX
 clear hX ca cb cc fc hzX k'
 subst h0
 go_wp2_with fail
 refine (qk.out _ (up_self _)).mono ?_
 rintro r w' ⟨rfl,x0,rfl⟩
 clear qk
 rw [plus_plus]
 obtain⟨x1,hx1⟩:∃ Y:Ext,(⟨Ext.blocks Y0++Ext.blocks x0,Ext.draws x0⟩:Ext)=Y:=⟨_,rfl⟩
 rw [hx1]
 clear hx1
 go_wp2
 exact⟨rfl,rfl,by rw [hz3.out,plus_plus];exact⟨_,rfl⟩⟩
set_option maxRecDepth 100000 in
set_option maxHeartbeats 16000000 in
theorem typeOf_a (p0:Option Addr) (n0 c0:Nat) (p1:Option Addr) (n1 c1:Nat) (p2:Option Addr) (n2 c2:Nat) (p3:Option Addr) (n3 c3:Nat) (p4:Option Addr) (n4 c4:Nat) (p5:Option Addr) (n5 c5:Nat) (p6:Option Addr) (n6 c6:Nat) (act:Int) (lw lh ll:Int) (hd nm:ByteArray) (eh el:Int) (pa:Addr) (en ec:Nat) (op r:Int) (aop alw alh all:Int) (ahd anm:ByteArray) (aeh ael:Int) (ap:Option Addr) (an ac:Nat) (w:World)
  (h0:0 < en)
  (ma:CellsAt w pa [.int .u8 aop,.int .i64 alw,.int .u64 alh,.int .u64 all,.string ahd,.string anm,.int .i64 aeh,.int .i64 ael,.slice ap an ac])
  (ka:KpE Tryz.prog w 28 #[.agg #[.slice p0 n0 c0,.slice p1 n1 c1,.slice p2 n2 c2,.slice p3 n3 c3,.slice p4 n4 c4,.slice p5 n5 c5,.slice p6 n6 c6,.int .i64 act],.agg #[.int .u8 aop,.int .i64 alw,.int .u64 alh,.int .u64 all,.string ahd,.string anm,.int .i64 aeh,.int .i64 ael,.slice ap an ac]] (gaveE r)) :
  KpE Tryz.prog w 28 #[.agg #[.slice p0 n0 c0,.slice p1 n1 c1,.slice p2 n2 c2,.slice p3 n3 c3,.slice p4 n4 c4,.slice p5 n5 c5,.slice p6 n6 c6,.int .i64 act],.agg #[.int .u8 op,.int .i64 lw,.int .u64 lh,.int .u64 ll,.string hd,.string nm,.int .i64 eh,.int .i64 el,.slice (some pa) en ec]] (gaveE r):=by
 intro y0
 have ka:=ka.up y0
 have ma:=ma.plus y0
 obtain⟨V,hV⟩:∃ V,plus w y0=V:=⟨_,rfl⟩
 rw [hV] at ka ma ⊢
 clear hV
 have ka':=Lib.hid ka
 have ma':=Lib.hid ma
 clear ka ma
 go_enter Tryz.func28,Tryz.ntmps28
 go_upto_region 1 with (fail)
 obtain⟨X,Y0,hX,⟨zX,hzX⟩,-,ca,cb,cc,fc⟩:=box3f V _ _ _ 90 45 75
 rw [hX]
 have g0:=ca 0 _ rfl
 have g1:=ca 1 _ rfl
 have g2:=ca 2 _ rfl
 have g3:=ca 3 _ rfl
 have g4:=ca 4 _ rfl
 have g5:=ca 5 _ rfl
 have g6:=ca 6 _ rfl
 have g7:=ca 7 _ rfl
 have b0:=cb 0 _ rfl
 have b1:=cb 1 _ rfl
 have b2:=cb 2 _ rfl
 have b3:=cb 3 _ rfl
 have b4:=cb 4 _ rfl
 have b5:=cb 5 _ rfl
 have b6:=cb 6 _ rfl
 have b7:=cb 7 _ rfl
 have b8:=cb 8 _ rfl
 have hR:=Lib.hid (rb_of ⟨zX,hzX⟩ (show V.heap.size≤V.heap.size+1+1 by omega) cc fc)
 have qka:=Lib.hid (atsE_of (kpE_up hzX ka'.out))
 have uma:=cells_up hzX ma'.out
 have a0:=fun y=>(uma.plus y).c0 _ rfl
 have a1:=fun y=>(uma.plus y).cs 0 _ rfl
 have a2:=fun y=>(uma.plus y).cs 1 _ rfl
 have a3:=fun y=>(uma.plus y).cs 2 _ rfl
 have a4:=fun y=>(uma.plus y).cs 3 _ rfl
 have a5:=fun y=>(uma.plus y).cs 4 _ rfl
 have a6:=fun y=>(uma.plus y).cs 5 _ rfl
 have a7:=fun y=>(uma.plus y).cs 6 _ rfl
 have a8:=fun y=>(uma.plus y).cs 7 _ rfl
 clear uma
 have hz3:=Lib.hid hzX
 clear hX ca cb cc fc hzX ka' ma'
 go_upto_region 3 with (fail)
 refine wp_region_held_drew (S:=fun U=>∃ z,U=plus X z) (by kernel_rfl) ⟨⟨Y0.blocks,Y0.draws+1⟩,rfl⟩ (fun hHeld=>?_)
 obtain⟨U0,hU0⟩:∃ U,(plus X Y0).drew=U:=⟨_,rfl⟩
 rw [hU0] at hHeld ⊢
 clear hU0
 refine wpAnyH_take (i:=0) (oi:={ dst:=some 13,op:=Op.load 90 (Operand.tmp 2),type:=90,pos:="expr.go:20",after:=#[],guard:=none }) (v:=?v0) rfl (by kernel_rfl) (by kernel_rfl) (by kernel_rfl) (fun _ _ _ h=>h) (Or.inl ⟨by rfl,?h0⟩) hHeld ?r0
 case h0 =>
  rintro _ ⟨z,rfl⟩
  go_simp
  try with_reducible rfl
 simp only [Act.put,List.setIfInBounds_toArray,List.set_cons_zero,List.set_cons_succ]
 refine wpAnyH_take (i:=1) (oi:={ dst:=some 14,op:=Op.fieldAddr 45 (Operand.tmp 3) 6,type:=0,pos:="expr.go:20",after:=#[],guard:=none }) (v:=?v1) rfl (by kernel_rfl) (by kernel_rfl) (by kernel_rfl) (fun _ _ _ h=>h) (Or.inl ⟨by rfl,?h1⟩) hHeld ?r1
 case h1 =>
  rintro _ ⟨z,rfl⟩
  go_simp
  try with_reducible rfl
 simp only [Act.put,List.setIfInBounds_toArray,List.set_cons_zero,List.set_cons_succ]
 refine wpAnyH_take (i:=2) (oi:={ dst:=some 15,op:=Op.load 43 (Operand.tmp 14),type:=43,pos:="expr.go:20",after:=#[{ on:=1,ground:=Ground.data }],guard:=none }) (v:=?v2) rfl (by kernel_rfl) (by kernel_rfl) (by kernel_rfl) (fun _ _ _ h=>h) (Or.inl ⟨by rfl,?h2⟩) hHeld ?r2
 case h2 =>
  rintro _ ⟨z,rfl⟩
  go_simp
  try with_reducible rfl
 simp only [Act.put,List.setIfInBounds_toArray,List.set_cons_zero,List.set_cons_succ]
 refine wpAnyH_take (i:=3) (oi:={ dst:=some 16,op:=Op.indexAddr 43 (Operand.tmp 15) (Operand.const (Value.int IntKind.i64 0)),type:=0,pos:="expr.go:20",after:=#[{ on:=2,ground:=Ground.data }],guard:=none }) (v:=?v3) rfl (by kernel_rfl) (by kernel_rfl) (by kernel_rfl) (fun _ _ _ h=>h) (Or.inl ⟨by rfl,?h3⟩) hHeld ?r3
 case h3 =>
  rintro _ ⟨z,rfl⟩
  go_simp
  try with_reducible rfl
 simp only [Act.put,List.setIfInBounds_toArray,List.set_cons_zero,List.set_cons_succ]
 refine wpAnyH_take (i:=4) (oi:={ dst:=some 17,op:=Op.load 45 (Operand.tmp 16),type:=45,pos:="expr.go:20",after:=#[{ on:=3,ground:=Ground.data }],guard:=none }) (v:=?v4) rfl (by kernel_rfl) (by kernel_rfl) (by kernel_rfl) (fun _ _ _ h=>h) (Or.inl ⟨by rfl,?h4⟩) hHeld ?r4
 case h4 =>
  rintro _ ⟨z,rfl⟩
  go_simp
  try with_reducible rfl
 simp only [Act.put,List.setIfInBounds_toArray,List.set_cons_zero,List.set_cons_succ]
 refine wpAnyH_ready (rs:=[5,6]) (by kernel_rfl) (by simp) ?_
 refine AllReadyH.cons (o:={ dst:=some 18,op:=Op.call { callee:=Callee.value (Operand.func 28),args:=#[Operand.tmp 13,Operand.tmp 17],argTypes:=#[90,45] },type:=75,pos:="expr.go:20",after:=#[{ on:=0,ground:=Ground.data },{ on:=4,ground:=Ground.data }],guard:=none }) rfl (fun K hK=>?_) ?_
 ·go_simp
  refine (qka.out _ hHeld).mono ?_
  rintro r w' ⟨rfl,x1,rfl⟩
  refine⟨rfl,rfl,?_⟩
  obtain⟨zz,hzz⟩:=hHeld
  rw [hzz,hz3.out,plus_plus,plus_plus]
  exact⟨_,rfl⟩
 refine AllReadyH.cons (o:={ dst:=some 5,op:=Op.alloc 75,type:=0,pos:="expr.go:20",after:=#[],guard:=none }) rfl (fun K hK=>?_) AllReadyH.nil
 go_simp
 refine hK.out _ _ (up_alloc hHeld _) (fun hHeld2=>?_)
 clear hK K
 refine wpAnyH_ready (rs:=[5]) (by kernel_rfl) (by simp) ?_
 refine AllReadyH.cons (o:={ dst:=some 18,op:=Op.call { callee:=Callee.value (Operand.func 28),args:=#[Operand.tmp 13,Operand.tmp 17],argTypes:=#[90,45] },type:=75,pos:="expr.go:20",after:=#[{ on:=0,ground:=Ground.data },{ on:=4,ground:=Ground.data }],guard:=none }) rfl (fun K hK=>?_) AllReadyH.nil
 go_simp
 refine (qka.out _ hHeld2).mono ?_
 rintro r w' ⟨rfl,x1,rfl⟩
 refine⟨rfl,rfl,?_⟩
 obtain⟨zz,hzz⟩:=hHeld2
 rw [hzz,hz3.out,plus_plus,plus_plus]
 exact⟨_,rfl⟩
set_option maxRecDepth 100000 in
set_option maxHeartbeats 16000000 in
theorem typeOf_one (p0:Option Addr) (n0 c0:Nat) (p1:Option Addr) (n1 c1:Nat) (p2:Option Addr) (n2 c2:Nat) (p3:Option Addr) (n3 c3:Nat) (p4:Option Addr) (n4 c4:Nat) (p5:Option Addr) (n5 c5:Nat) (p6:Option Addr) (n6 c6:Nat) (act:Int) (lw lh ll:Int) (hd nm:ByteArray) (eh el:Int) (pa:Addr) (en ec:Nat) (op tw:Int) (tt tf:Bool)(aop alw alh all:Int) (ahd anm:ByteArray) (aeh ael:Int) (ap:Option Addr) (an ac:Nat)(rw2:Int) (rt2 rf2:Bool) (w:World)
  (h1:en=1)
  (ma:CellsAt w pa [.int .u8 aop,.int .i64 alw,.int .u64 alh,.int .u64 all,.string ahd,.string anm,.int .i64 aeh,.int .i64 ael,.slice ap an ac])
  (o14:(op == 14)=false)
  (o15:(op == 15)=false)
  (ka:KpE Tryz.prog w 28 #[.agg #[.slice p0 n0 c0,.slice p1 n1 c1,.slice p2 n2 c2,.slice p3 n3 c3,.slice p4 n4 c4,.slice p5 n5 c5,.slice p6 n6 c6,.int .i64 act],.agg #[.int .u8 aop,.int .i64 alw,.int .u64 alh,.int .u64 all,.string ahd,.string anm,.int .i64 aeh,.int .i64 ael,.slice ap an ac]] (.returned (.agg #[.int .i64 tw,.bool tt,.bool tf])))
  (ko:KpE Tryz.prog w 50 #[.agg #[.int .u8 op,.int .i64 lw,.int .u64 lh,.int .u64 ll,.string hd,.string nm,.int .i64 eh,.int .i64 el,.slice (some pa) en ec],.agg #[.int .i64 tw,.bool tt,.bool tf]] (.returned (.agg #[.int .i64 rw2,.bool rt2,.bool rf2]))) :
  KpE Tryz.prog w 28 #[.agg #[.slice p0 n0 c0,.slice p1 n1 c1,.slice p2 n2 c2,.slice p3 n3 c3,.slice p4 n4 c4,.slice p5 n5 c5,.slice p6 n6 c6,.int .i64 act],.agg #[.int .u8 op,.int .i64 lw,.int .u64 lh,.int .u64 ll,.string hd,.string nm,.int .i64 eh,.int .i64 el,.slice (some pa) en ec]] (.returned (.agg #[.int .i64 rw2,.bool rt2,.bool rf2])):=by
 intro y0
 have ka:=ka.up y0
 have ko:=ko.up y0
 have ma:=ma.plus y0
 obtain⟨V,hV⟩:∃ V,plus w y0=V:=⟨_,rfl⟩
 rw [hV] at ka ko ma ⊢
 clear hV
 have ka':=Lib.hid ka
 have ko':=Lib.hid ko
 have ma':=Lib.hid ma
 clear ka ko ma
 go_enter Tryz.func28,Tryz.ntmps28
 go_upto_region 1 with (fail)
 obtain⟨X,Y0,hX,⟨zX,hzX⟩,-,ca,cb,cc,fc⟩:=box3f V _ _ _ 90 45 75
 rw [hX]
 have g0:=ca 0 _ rfl
 have g1:=ca 1 _ rfl
 have g2:=ca 2 _ rfl
 have g3:=ca 3 _ rfl
 have g4:=ca 4 _ rfl
 have g5:=ca 5 _ rfl
 have g6:=ca 6 _ rfl
 have g7:=ca 7 _ rfl
 have b0:=cb 0 _ rfl
 have b1:=cb 1 _ rfl
 have b2:=cb 2 _ rfl
 have b3:=cb 3 _ rfl
 have b4:=cb 4 _ rfl
 have b5:=cb 5 _ rfl
 have b6:=cb 6 _ rfl
 have b7:=cb 7 _ rfl
 have b8:=cb 8 _ rfl
 have hR:=Lib.hid (rb_of ⟨zX,hzX⟩ (show V.heap.size≤V.heap.size+1+1 by omega) cc fc)
 have qka:=Lib.hid (atsE_of (kpE_up hzX ka'.out))
 have qko:=Lib.hid (atsE_of (kpE_up hzX ko'.out))
 have uma:=cells_up hzX ma'.out
 have a0:=fun y=>(uma.plus y).c0 _ rfl
 have a1:=fun y=>(uma.plus y).cs 0 _ rfl
 have a2:=fun y=>(uma.plus y).cs 1 _ rfl
 have a3:=fun y=>(uma.plus y).cs 2 _ rfl
 have a4:=fun y=>(uma.plus y).cs 3 _ rfl
 have a5:=fun y=>(uma.plus y).cs 4 _ rfl
 have a6:=fun y=>(uma.plus y).cs 5 _ rfl
 have a7:=fun y=>(uma.plus y).cs 6 _ rfl
 have a8:=fun y=>(uma.plus y).cs 7 _ rfl
 clear uma
 have hz3:=Lib.hid hzX
 clear hX ca cb cc fc hzX ka' ko' ma'
 subst h1
 go_upto_region 3 with (fail)
 go_cut [5] from 13 to 18 (fun s5 wx=>∃ b:Nat,s5=.pointer (some ⟨b,0,none⟩)∧Got8 X b ⟨tw,tt,tf⟩ wx)
 case first =>
  refine wp_region_held_drew (S:=fun U=>∃ z,U=plus X z) (by kernel_rfl) ⟨⟨Y0.blocks,Y0.draws+1⟩,rfl⟩ (fun hHeld=>?_)
  obtain⟨U0,hU0⟩:∃ U,(plus X Y0).drew=U:=⟨_,rfl⟩
  rw [hU0] at hHeld ⊢
  clear hU0
  refine wpAnyH_take (i:=0) (oi:={ dst:=some 13,op:=Op.load 90 (Operand.tmp 2),type:=90,pos:="expr.go:20",after:=#[],guard:=none }) (v:=?v0) rfl (by kernel_rfl) (by kernel_rfl) (by kernel_rfl) (fun _ _ _ h=>h) (Or.inl ⟨by rfl,?h0⟩) hHeld ?r0
  case h0 =>
   rintro _ ⟨z,rfl⟩
   go_simp
   try with_reducible rfl
  simp only [Act.put,List.setIfInBounds_toArray,List.set_cons_zero,List.set_cons_succ]
  refine wpAnyH_take (i:=1) (oi:={ dst:=some 14,op:=Op.fieldAddr 45 (Operand.tmp 3) 6,type:=0,pos:="expr.go:20",after:=#[],guard:=none }) (v:=?v1) rfl (by kernel_rfl) (by kernel_rfl) (by kernel_rfl) (fun _ _ _ h=>h) (Or.inl ⟨by rfl,?h1⟩) hHeld ?r1
  case h1 =>
   rintro _ ⟨z,rfl⟩
   go_simp
   try with_reducible rfl
  simp only [Act.put,List.setIfInBounds_toArray,List.set_cons_zero,List.set_cons_succ]
  refine wpAnyH_take (i:=2) (oi:={ dst:=some 15,op:=Op.load 43 (Operand.tmp 14),type:=43,pos:="expr.go:20",after:=#[{ on:=1,ground:=Ground.data }],guard:=none }) (v:=?v2) rfl (by kernel_rfl) (by kernel_rfl) (by kernel_rfl) (fun _ _ _ h=>h) (Or.inl ⟨by rfl,?h2⟩) hHeld ?r2
  case h2 =>
   rintro _ ⟨z,rfl⟩
   go_simp
   try with_reducible rfl
  simp only [Act.put,List.setIfInBounds_toArray,List.set_cons_zero,List.set_cons_succ]
  refine wpAnyH_take (i:=3) (oi:={ dst:=some 16,op:=Op.indexAddr 43 (Operand.tmp 15) (Operand.const (Value.int IntKind.i64 0)),type:=0,pos:="expr.go:20",after:=#[{ on:=2,ground:=Ground.data }],guard:=none }) (v:=?v3) rfl (by kernel_rfl) (by kernel_rfl) (by kernel_rfl) (fun _ _ _ h=>h) (Or.inl ⟨by rfl,?h3⟩) hHeld ?r3
  case h3 =>
   rintro _ ⟨z,rfl⟩
   go_simp
   try with_reducible rfl
  simp only [Act.put,List.setIfInBounds_toArray,List.set_cons_zero,List.set_cons_succ]
  refine wpAnyH_take (i:=4) (oi:={ dst:=some 17,op:=Op.load 45 (Operand.tmp 16),type:=45,pos:="expr.go:20",after:=#[{ on:=3,ground:=Ground.data }],guard:=none }) (v:=?v4) rfl (by kernel_rfl) (by kernel_rfl) (by kernel_rfl) (fun _ _ _ h=>h) (Or.inl ⟨by rfl,?h4⟩) hHeld ?r4
  case h4 =>
   rintro _ ⟨z,rfl⟩
   go_simp
   try with_reducible rfl
  simp only [Act.put,List.setIfInBounds_toArray,List.set_cons_zero,List.set_cons_succ]
  refine wpAnyH_ready (rs:=[5,6]) (by kernel_rfl) (by simp) ?_
  refine AllReadyH.cons (o:={ dst:=some 18,op:=Op.call { callee:=Callee.value (Operand.func 28),args:=#[Operand.tmp 13,Operand.tmp 17],argTypes:=#[90,45] },type:=75,pos:="expr.go:20",after:=#[{ on:=0,ground:=Ground.data },{ on:=4,ground:=Ground.data }],guard:=none }) rfl (fun K hK=>?_) ?_
  ·go_simp
   refine (qka.out _ hHeld).mono ?_
   rintro r w' ⟨rfl,x1,rfl⟩
   refine hK.out _ _ (up_plus hHeld x1) (fun hHeld2=>?_)
   clear hK K hHeld
   obtain⟨U1,hU1⟩:∃ U,plus U0 x1=U:=⟨_,rfl⟩
   rw [hU1] at hHeld2 ⊢
   clear hU1
   refine wpAnyH_ready (rs:=[6]) (by kernel_rfl) (by simp) ?_
   refine AllReadyH.cons (o:={ dst:=some 5,op:=Op.alloc 75,type:=0,pos:="expr.go:20",after:=#[],guard:=none }) rfl (fun K hK=>?_) AllReadyH.nil
   go_simp
   refine hK.out _ _ (up_alloc hHeld2 _) (fun hHeld3=>?_)
   clear hK K hHeld3
   have hN:=new8_of hHeld2
   obtain⟨b,hb⟩:∃ b,U1.heap.size=b:=⟨_,rfl⟩
   obtain⟨U2,hU2⟩:∃ U,U1.alloc (.cells #[.int .i64 0,.bool false,.bool false] 75)=U:=⟨_,rfl⟩
   rw [hb,hU2] at hN
   rw [hb,hU2]
   clear hb hU2
   refine wpAnyH_ready (rs:=[7]) (by kernel_rfl) (by simp) ?_
   refine AllReadyH.cons (o:={ dst:=none,op:=Op.store 75 (Operand.tmp 5) (Operand.tmp 18),type:=0,pos:="expr.go:20",after:=#[{ on:=6,ground:=Ground.data },{ on:=5,ground:=Ground.data },{ on:=5,ground:=Ground.chain },{ on:=0,ground:=Ground.phase },{ on:=1,ground:=Ground.phase },{ on:=2,ground:=Ground.phase },{ on:=3,ground:=Ground.phase },{ on:=4,ground:=Ground.phase },{ on:=5,ground:=Ground.phase },{ on:=6,ground:=Ground.phase }],guard:=none }) rfl (fun K hK=>?_) AllReadyH.nil
   have r0:=hN.rb.r0
   have r1:=hN.rb.r1
   have r2:=hN.rb.r2
   have rf:=hN.rb.rf
   go_simp
   refine hK.out _ _ (hN.set ⟨tw,tt,tf⟩).up (fun _=>?_)
   clear hK K r0 r1 r2 rf
   refine wpAnyH_done (by kernel_rfl) ?_ _
   go_wp2_with fail
   go_meet
   exact⟨b,rfl,hN.set ⟨tw,tt,tf⟩⟩
  refine AllReadyH.cons (o:={ dst:=some 5,op:=Op.alloc 75,type:=0,pos:="expr.go:20",after:=#[],guard:=none }) rfl (fun K hK=>?_) AllReadyH.nil
  go_simp
  refine hK.out _ _ (up_alloc hHeld _) (fun hHeld2=>?_)
  clear hK K
  have hN:=new8_of hHeld
  obtain⟨b,hb⟩:∃ b,U0.heap.size=b:=⟨_,rfl⟩
  obtain⟨U2,hU2⟩:∃ U,U0.alloc (.cells #[.int .i64 0,.bool false,.bool false] 75)=U:=⟨_,rfl⟩
  rw [hb,hU2] at hN
  rw [hb,hU2]
  clear hb hU2
  clear hHeld2
  have hHeld2:=hN.rb.up
  refine wpAnyH_ready (rs:=[5]) (by kernel_rfl) (by simp) ?_
  refine AllReadyH.cons (o:={ dst:=some 18,op:=Op.call { callee:=Callee.value (Operand.func 28),args:=#[Operand.tmp 13,Operand.tmp 17],argTypes:=#[90,45] },type:=75,pos:="expr.go:20",after:=#[{ on:=0,ground:=Ground.data },{ on:=4,ground:=Ground.data }],guard:=none }) rfl (fun K hK=>?_) AllReadyH.nil
  go_simp
  refine (qka.out _ hHeld2).mono ?_
  rintro r w' ⟨rfl,x1,rfl⟩
  refine hK.out _ _ (up_plus hHeld2 x1) (fun hHeld3=>?_)
  clear hK K hHeld3
  replace hN:=hN.plus x1
  refine wpAnyH_ready (rs:=[7]) (by kernel_rfl) (by simp) ?_
  refine AllReadyH.cons (o:={ dst:=none,op:=Op.store 75 (Operand.tmp 5) (Operand.tmp 18),type:=0,pos:="expr.go:20",after:=#[{ on:=6,ground:=Ground.data },{ on:=5,ground:=Ground.data },{ on:=5,ground:=Ground.chain },{ on:=0,ground:=Ground.phase },{ on:=1,ground:=Ground.phase },{ on:=2,ground:=Ground.phase },{ on:=3,ground:=Ground.phase },{ on:=4,ground:=Ground.phase },{ on:=5,ground:=Ground.phase },{ on:=6,ground:=Ground.phase }],guard:=none }) rfl (fun K hK=>?_) AllReadyH.nil
  have r0:=hN.rb.r0
  have r1:=hN.rb.r1
  have r2:=hN.rb.r2
  have rf:=hN.rb.rf
  go_simp
  refine hK.out _ _ (hN.set ⟨tw,tt,tf⟩).up (fun _=>?_)
  clear hK K r0 r1 r2 rf
  refine wpAnyH_done (by kernel_rfl) ?_ _
  go_wp2_with fail
  go_meet
  exact⟨b,rfl,hN.set ⟨tw,tt,tf⟩⟩
 case rest =>
  clear a0 a1 a2 a3 a4 a5 a6 a7 a8
  obtain⟨b,rfl,hG⟩:=hcut
  obtain⟨zc,hzc⟩:=hG.up
  have hcu:=Lib.hid (show ∀ y,∃ z,plus wc y=plus X z from fun y=>up_plus hG.up y)
  have hR2:=Lib.hid (show ∀ y,RB V (V.heap.size+1+1) (plus wc y) from fun y=>by rw [hzc,plus_plus];exact hR.out _)
  have t0:=fun y=>(cell_plus wc y b 0 hG.lt).trans hG.t0
  have t1:=fun y=>(cell_plus wc y b 1 hG.lt).trans hG.t1
  have t2:=fun y=>(cell_plus wc y b 2 hG.lt).trans hG.t2
  replace g0:=lift8 hzc g0
  replace g1:=lift8 hzc g1
  replace g2:=lift8 hzc g2
  replace g3:=lift8 hzc g3
  replace g4:=lift8 hzc g4
  replace g5:=lift8 hzc g5
  replace g6:=lift8 hzc g6
  replace g7:=lift8 hzc g7
  replace b0:=lift8 hzc b0
  replace b1:=lift8 hzc b1
  replace b2:=lift8 hzc b2
  replace b3:=lift8 hzc b3
  replace b4:=lift8 hzc b4
  replace b5:=lift8 hzc b5
  replace b6:=lift8 hzc b6
  replace b7:=lift8 hzc b7
  replace b8:=lift8 hzc b8
  have hz4:=Lib.hid (show ∃ z,wc=plus V z by rw [hzc,hz3.out,plus_plus];exact⟨_,rfl⟩)
  clear hG hzc hR hz3
  rw [← plus_self wc]
  obtain⟨Yc,hYc⟩:∃ Y:Ext,(⟨#[],wc.drawn⟩:Ext)=Y:=⟨_,rfl⟩
  rw [hYc]
  clear hYc
  go_wp2_with fail
  refine (qko.out _ (hcu.out _)).mono ?_
  rintro r w' ⟨rfl,x5,rfl⟩
  clear qko
  rw [plus_plus]
  obtain⟨Y5,hY5⟩:∃ Y:Ext,(⟨Ext.blocks Yc++Ext.blocks x5,Ext.draws x5⟩:Ext)=Y:=⟨_,rfl⟩
  rw [hY5]
  clear hY5
  have hRU:=hR2.out Y5
  have r0:=hRU.r0
  have r1:=hRU.r1
  have r2:=hRU.r2
  have rf:=hRU.rf
  have hRU':=Lib.hid hRU
  clear hRU hR2
  go_wp2
  obtain⟨Z,hZ,g0,g1,g2,hV⟩:=hRU'.out.set ⟨rw2,rt2,rf2⟩
  simp only at hZ
  rw [hZ]
  clear hZ
  exact bodyPost_ret (v:=.agg #[.int .i64 rw2,.bool rt2,.bool rf2]) (by simp [results,Tryz.results28,go_sem,g0,g1,g2]) rfl ⟨rfl,hV⟩
set_option maxRecDepth 100000 in
set_option maxHeartbeats 16000000 in
theorem typeOf_oneE (p0:Option Addr) (n0 c0:Nat) (p1:Option Addr) (n1 c1:Nat) (p2:Option Addr) (n2 c2:Nat) (p3:Option Addr) (n3 c3:Nat) (p4:Option Addr) (n4 c4:Nat) (p5:Option Addr) (n5 c5:Nat) (p6:Option Addr) (n6 c6:Nat) (act:Int) (lw lh ll:Int) (hd nm:ByteArray) (eh el:Int) (pa:Addr) (en ec:Nat) (op tw:Int) (tt tf:Bool)(aop alw alh all:Int) (ahd anm:ByteArray) (aeh ael:Int) (ap:Option Addr) (an ac:Nat)(r2:Int) (w:World)
  (h1:en=1)
  (ma:CellsAt w pa [.int .u8 aop,.int .i64 alw,.int .u64 alh,.int .u64 all,.string ahd,.string anm,.int .i64 aeh,.int .i64 ael,.slice ap an ac])
  (o14:(op == 14)=false)
  (o15:(op == 15)=false)
  (ka:KpE Tryz.prog w 28 #[.agg #[.slice p0 n0 c0,.slice p1 n1 c1,.slice p2 n2 c2,.slice p3 n3 c3,.slice p4 n4 c4,.slice p5 n5 c5,.slice p6 n6 c6,.int .i64 act],.agg #[.int .u8 aop,.int .i64 alw,.int .u64 alh,.int .u64 all,.string ahd,.string anm,.int .i64 aeh,.int .i64 ael,.slice ap an ac]] (.returned (.agg #[.int .i64 tw,.bool tt,.bool tf])))
  (ko:KpE Tryz.prog w 50 #[.agg #[.int .u8 op,.int .i64 lw,.int .u64 lh,.int .u64 ll,.string hd,.string nm,.int .i64 eh,.int .i64 el,.slice (some pa) en ec],.agg #[.int .i64 tw,.bool tt,.bool tf]] (gaveE r2)) :
  KpE Tryz.prog w 28 #[.agg #[.slice p0 n0 c0,.slice p1 n1 c1,.slice p2 n2 c2,.slice p3 n3 c3,.slice p4 n4 c4,.slice p5 n5 c5,.slice p6 n6 c6,.int .i64 act],.agg #[.int .u8 op,.int .i64 lw,.int .u64 lh,.int .u64 ll,.string hd,.string nm,.int .i64 eh,.int .i64 el,.slice (some pa) en ec]] (gaveE r2):=by
 intro y0
 have ka:=ka.up y0
 have ko:=ko.up y0
 have ma:=ma.plus y0
 obtain⟨V,hV⟩:∃ V,plus w y0=V:=⟨_,rfl⟩
 rw [hV] at ka ko ma ⊢
 clear hV
 have ka':=Lib.hid ka
 have ko':=Lib.hid ko
 have ma':=Lib.hid ma
 clear ka ko ma
 go_enter Tryz.func28,Tryz.ntmps28
 go_upto_region 1 with (fail)
 obtain⟨X,Y0,hX,⟨zX,hzX⟩,-,ca,cb,cc,fc⟩:=box3f V _ _ _ 90 45 75
 rw [hX]
 have g0:=ca 0 _ rfl
 have g1:=ca 1 _ rfl
 have g2:=ca 2 _ rfl
 have g3:=ca 3 _ rfl
 have g4:=ca 4 _ rfl
 have g5:=ca 5 _ rfl
 have g6:=ca 6 _ rfl
 have g7:=ca 7 _ rfl
 have b0:=cb 0 _ rfl
 have b1:=cb 1 _ rfl
 have b2:=cb 2 _ rfl
 have b3:=cb 3 _ rfl
 have b4:=cb 4 _ rfl
 have b5:=cb 5 _ rfl
 have b6:=cb 6 _ rfl
 have b7:=cb 7 _ rfl
 have b8:=cb 8 _ rfl
 have hR:=Lib.hid (rb_of ⟨zX,hzX⟩ (show V.heap.size≤V.heap.size+1+1 by omega) cc fc)
 have qka:=Lib.hid (atsE_of (kpE_up hzX ka'.out))
 have qko:=Lib.hid (atsE_of (kpE_up hzX ko'.out))
 have uma:=cells_up hzX ma'.out
 have a0:=fun y=>(uma.plus y).c0 _ rfl
 have a1:=fun y=>(uma.plus y).cs 0 _ rfl
 have a2:=fun y=>(uma.plus y).cs 1 _ rfl
 have a3:=fun y=>(uma.plus y).cs 2 _ rfl
 have a4:=fun y=>(uma.plus y).cs 3 _ rfl
 have a5:=fun y=>(uma.plus y).cs 4 _ rfl
 have a6:=fun y=>(uma.plus y).cs 5 _ rfl
 have a7:=fun y=>(uma.plus y).cs 6 _ rfl
 have a8:=fun y=>(uma.plus y).cs 7 _ rfl
 clear uma
 have hz3:=Lib.hid hzX
 clear hX ca cb cc fc hzX ka' ko' ma'
 subst h1
 go_upto_region 3 with (fail)
 go_cut [5] from 13 to 18 (fun s5 wx=>∃ b:Nat,s5=.pointer (some ⟨b,0,none⟩)∧Got8 X b ⟨tw,tt,tf⟩ wx)
 case first =>
  refine wp_region_held_drew (S:=fun U=>∃ z,U=plus X z) (by kernel_rfl) ⟨⟨Y0.blocks,Y0.draws+1⟩,rfl⟩ (fun hHeld=>?_)
  obtain⟨U0,hU0⟩:∃ U,(plus X Y0).drew=U:=⟨_,rfl⟩
  rw [hU0] at hHeld ⊢
  clear hU0
  refine wpAnyH_take (i:=0) (oi:={ dst:=some 13,op:=Op.load 90 (Operand.tmp 2),type:=90,pos:="expr.go:20",after:=#[],guard:=none }) (v:=?v0) rfl (by kernel_rfl) (by kernel_rfl) (by kernel_rfl) (fun _ _ _ h=>h) (Or.inl ⟨by rfl,?h0⟩) hHeld ?r0
  case h0 =>
   rintro _ ⟨z,rfl⟩
   go_simp
   try with_reducible rfl
  simp only [Act.put,List.setIfInBounds_toArray,List.set_cons_zero,List.set_cons_succ]
  refine wpAnyH_take (i:=1) (oi:={ dst:=some 14,op:=Op.fieldAddr 45 (Operand.tmp 3) 6,type:=0,pos:="expr.go:20",after:=#[],guard:=none }) (v:=?v1) rfl (by kernel_rfl) (by kernel_rfl) (by kernel_rfl) (fun _ _ _ h=>h) (Or.inl ⟨by rfl,?h1⟩) hHeld ?r1
  case h1 =>
   rintro _ ⟨z,rfl⟩
   go_simp
   try with_reducible rfl
  simp only [Act.put,List.setIfInBounds_toArray,List.set_cons_zero,List.set_cons_succ]
  refine wpAnyH_take (i:=2) (oi:={ dst:=some 15,op:=Op.load 43 (Operand.tmp 14),type:=43,pos:="expr.go:20",after:=#[{ on:=1,ground:=Ground.data }],guard:=none }) (v:=?v2) rfl (by kernel_rfl) (by kernel_rfl) (by kernel_rfl) (fun _ _ _ h=>h) (Or.inl ⟨by rfl,?h2⟩) hHeld ?r2
  case h2 =>
   rintro _ ⟨z,rfl⟩
   go_simp
   try with_reducible rfl
  simp only [Act.put,List.setIfInBounds_toArray,List.set_cons_zero,List.set_cons_succ]
  refine wpAnyH_take (i:=3) (oi:={ dst:=some 16,op:=Op.indexAddr 43 (Operand.tmp 15) (Operand.const (Value.int IntKind.i64 0)),type:=0,pos:="expr.go:20",after:=#[{ on:=2,ground:=Ground.data }],guard:=none }) (v:=?v3) rfl (by kernel_rfl) (by kernel_rfl) (by kernel_rfl) (fun _ _ _ h=>h) (Or.inl ⟨by rfl,?h3⟩) hHeld ?r3
  case h3 =>
   rintro _ ⟨z,rfl⟩
   go_simp
   try with_reducible rfl
  simp only [Act.put,List.setIfInBounds_toArray,List.set_cons_zero,List.set_cons_succ]
  refine wpAnyH_take (i:=4) (oi:={ dst:=some 17,op:=Op.load 45 (Operand.tmp 16),type:=45,pos:="expr.go:20",after:=#[{ on:=3,ground:=Ground.data }],guard:=none }) (v:=?v4) rfl (by kernel_rfl) (by kernel_rfl) (by kernel_rfl) (fun _ _ _ h=>h) (Or.inl ⟨by rfl,?h4⟩) hHeld ?r4
  case h4 =>
   rintro _ ⟨z,rfl⟩
   go_simp
   try with_reducible rfl
  simp only [Act.put,List.setIfInBounds_toArray,List.set_cons_zero,List.set_cons_succ]
  refine wpAnyH_ready (rs:=[5,6]) (by kernel_rfl) (by simp) ?_
  refine AllReadyH.cons (o:={ dst:=some 18,op:=Op.call { callee:=Callee.value (Operand.func 28),args:=#[Operand.tmp 13,Operand.tmp 17],argTypes:=#[90,45] },type:=75,pos:="expr.go:20",after:=#[{ on:=0,ground:=Ground.data },{ on:=4,ground:=Ground.data }],guard:=none }) rfl (fun K hK=>?_) ?_
  ·go_simp
   refine (qka.out _ hHeld).mono ?_
   rintro r w' ⟨rfl,x1,rfl⟩
   refine hK.out _ _ (up_plus hHeld x1) (fun hHeld2=>?_)
   clear hK K hHeld
   obtain⟨U1,hU1⟩:∃ U,plus U0 x1=U:=⟨_,rfl⟩
   rw [hU1] at hHeld2 ⊢
   clear hU1
   refine wpAnyH_ready (rs:=[6]) (by kernel_rfl) (by simp) ?_
   refine AllReadyH.cons (o:={ dst:=some 5,op:=Op.alloc 75,type:=0,pos:="expr.go:20",after:=#[],guard:=none }) rfl (fun K hK=>?_) AllReadyH.nil
   go_simp
   refine hK.out _ _ (up_alloc hHeld2 _) (fun hHeld3=>?_)
   clear hK K hHeld3
   have hN:=new8_of hHeld2
   obtain⟨b,hb⟩:∃ b,U1.heap.size=b:=⟨_,rfl⟩
   obtain⟨U2,hU2⟩:∃ U,U1.alloc (.cells #[.int .i64 0,.bool false,.bool false] 75)=U:=⟨_,rfl⟩
   rw [hb,hU2] at hN
   rw [hb,hU2]
   clear hb hU2
   refine wpAnyH_ready (rs:=[7]) (by kernel_rfl) (by simp) ?_
   refine AllReadyH.cons (o:={ dst:=none,op:=Op.store 75 (Operand.tmp 5) (Operand.tmp 18),type:=0,pos:="expr.go:20",after:=#[{ on:=6,ground:=Ground.data },{ on:=5,ground:=Ground.data },{ on:=5,ground:=Ground.chain },{ on:=0,ground:=Ground.phase },{ on:=1,ground:=Ground.phase },{ on:=2,ground:=Ground.phase },{ on:=3,ground:=Ground.phase },{ on:=4,ground:=Ground.phase },{ on:=5,ground:=Ground.phase },{ on:=6,ground:=Ground.phase }],guard:=none }) rfl (fun K hK=>?_) AllReadyH.nil
   have r0:=hN.rb.r0
   have r1:=hN.rb.r1
   have r2:=hN.rb.r2
   have rf:=hN.rb.rf
   go_simp
   refine hK.out _ _ (hN.set ⟨tw,tt,tf⟩).up (fun _=>?_)
   clear hK K r0 r1 r2 rf
   refine wpAnyH_done (by kernel_rfl) ?_ _
   go_wp2_with fail
   go_meet
   exact⟨b,rfl,hN.set ⟨tw,tt,tf⟩⟩
  refine AllReadyH.cons (o:={ dst:=some 5,op:=Op.alloc 75,type:=0,pos:="expr.go:20",after:=#[],guard:=none }) rfl (fun K hK=>?_) AllReadyH.nil
  go_simp
  refine hK.out _ _ (up_alloc hHeld _) (fun hHeld2=>?_)
  clear hK K
  have hN:=new8_of hHeld
  obtain⟨b,hb⟩:∃ b,U0.heap.size=b:=⟨_,rfl⟩
  obtain⟨U2,hU2⟩:∃ U,U0.alloc (.cells #[.int .i64 0,.bool false,.bool false] 75)=U:=⟨_,rfl⟩
  rw [hb,hU2] at hN
  rw [hb,hU2]
  clear hb hU2
  clear hHeld2
  have hHeld2:=hN.rb.up
  refine wpAnyH_ready (rs:=[5]) (by kernel_rfl) (by simp) ?_
  refine AllReadyH.cons (o:={ dst:=some 18,op:=Op.call { callee:=Callee.value (Operand.func 28),args:=#[Operand.tmp 13,Operand.tmp 17],argTypes:=#[90,45] },type:=75,pos:="expr.go:20",after:=#[{ on:=0,ground:=Ground.data },{ on:=4,ground:=Ground.data }],guard:=none }) rfl (fun K hK=>?_) AllReadyH.nil
  go_simp
  refine (qka.out _ hHeld2).mono ?_
  rintro r w' ⟨rfl,x1,rfl⟩
  refine hK.out _ _ (up_plus hHeld2 x1) (fun hHeld3=>?_)
  clear hK K hHeld3
  replace hN:=hN.plus x1
  refine wpAnyH_ready (rs:=[7]) (by kernel_rfl) (by simp) ?_
  refine AllReadyH.cons (o:={ dst:=none,op:=Op.store 75 (Operand.tmp 5) (Operand.tmp 18),type:=0,pos:="expr.go:20",after:=#[{ on:=6,ground:=Ground.data },{ on:=5,ground:=Ground.data },{ on:=5,ground:=Ground.chain },{ on:=0,ground:=Ground.phase },{ on:=1,ground:=Ground.phase },{ on:=2,ground:=Ground.phase },{ on:=3,ground:=Ground.phase },{ on:=4,ground:=Ground.phase },{ on:=5,ground:=Ground.phase },{ on:=6,ground:=Ground.phase }],guard:=none }) rfl (fun K hK=>?_) AllReadyH.nil
  have r0:=hN.rb.r0
  have r1:=hN.rb.r1
  have r2:=hN.rb.r2
  have rf:=hN.rb.rf
  go_simp
  refine hK.out _ _ (hN.set ⟨tw,tt,tf⟩).up (fun _=>?_)
  clear hK K r0 r1 r2 rf
  refine wpAnyH_done (by kernel_rfl) ?_ _
  go_wp2_with fail
  go_meet
  exact⟨b,rfl,hN.set ⟨tw,tt,tf⟩⟩
 case rest =>
  clear a0 a1 a2 a3 a4 a5 a6 a7 a8
  obtain⟨b,rfl,hG⟩:=hcut
  obtain⟨zc,hzc⟩:=hG.up
  have hcu:=Lib.hid (show ∀ y,∃ z,plus wc y=plus X z from fun y=>up_plus hG.up y)
  have hR2:=Lib.hid (show ∀ y,RB V (V.heap.size+1+1) (plus wc y) from fun y=>by rw [hzc,plus_plus];exact hR.out _)
  have t0:=fun y=>(cell_plus wc y b 0 hG.lt).trans hG.t0
  have t1:=fun y=>(cell_plus wc y b 1 hG.lt).trans hG.t1
  have t2:=fun y=>(cell_plus wc y b 2 hG.lt).trans hG.t2
  replace g0:=lift8 hzc g0
  replace g1:=lift8 hzc g1
  replace g2:=lift8 hzc g2
  replace g3:=lift8 hzc g3
  replace g4:=lift8 hzc g4
  replace g5:=lift8 hzc g5
  replace g6:=lift8 hzc g6
  replace g7:=lift8 hzc g7
  replace b0:=lift8 hzc b0
  replace b1:=lift8 hzc b1
  replace b2:=lift8 hzc b2
  replace b3:=lift8 hzc b3
  replace b4:=lift8 hzc b4
  replace b5:=lift8 hzc b5
  replace b6:=lift8 hzc b6
  replace b7:=lift8 hzc b7
  replace b8:=lift8 hzc b8
  have hz4:=Lib.hid (show ∃ z,wc=plus V z by rw [hzc,hz3.out,plus_plus];exact⟨_,rfl⟩)
  clear hG hzc hR hz3
  rw [← plus_self wc]
  obtain⟨Yc,hYc⟩:∃ Y:Ext,(⟨#[],wc.drawn⟩:Ext)=Y:=⟨_,rfl⟩
  rw [hYc]
  clear hYc
  go_wp2_with fail
  refine (qko.out _ (hcu.out _)).mono ?_
  rintro r w' ⟨rfl,x5,rfl⟩
  clear qko
  go_wp2
  obtain⟨zz,hzz⟩:=hz4.out
  exact⟨rfl,rfl,by rw [hzz,plus_plus,plus_plus];exact⟨_,rfl⟩⟩
set_option maxRecDepth 100000 in
set_option maxHeartbeats 16000000 in
theorem typeOf_sh14 (p0:Option Addr) (n0 c0:Nat) (p1:Option Addr) (n1 c1:Nat) (p2:Option Addr) (n2 c2:Nat) (p3:Option Addr) (n3 c3:Nat) (p4:Option Addr) (n4 c4:Nat) (p5:Option Addr) (n5 c5:Nat) (p6:Option Addr) (n6 c6:Nat) (act:Int) (lw lh ll:Int) (hd nm:ByteArray) (eh el:Int) (pa:Addr) (en ec:Nat) (tw:Int)(aop alw alh all:Int) (ahd anm:ByteArray) (aeh ael:Int) (ap:Option Addr) (an ac:Nat) (w:World)
  (h0:0 < en)
  (ma:CellsAt w pa [.int .u8 aop,.int .i64 alw,.int .u64 alh,.int .u64 all,.string ahd,.string anm,.int .i64 aeh,.int .i64 ael,.slice ap an ac])
  (ka:KpE Tryz.prog w 28 #[.agg #[.slice p0 n0 c0,.slice p1 n1 c1,.slice p2 n2 c2,.slice p3 n3 c3,.slice p4 n4 c4,.slice p5 n5 c5,.slice p6 n6 c6,.int .i64 act],.agg #[.int .u8 aop,.int .i64 alw,.int .u64 alh,.int .u64 all,.string ahd,.string anm,.int .i64 aeh,.int .i64 ael,.slice ap an ac]] (.returned (.agg #[.int .i64 tw,.bool false,.bool false])))
  (ko:KpE Tryz.prog w 49 #[.agg #[.int .i64 tw,.bool false,.bool false]] (.returned (.int .i64 tw))) :
  KpE Tryz.prog w 28 #[.agg #[.slice p0 n0 c0,.slice p1 n1 c1,.slice p2 n2 c2,.slice p3 n3 c3,.slice p4 n4 c4,.slice p5 n5 c5,.slice p6 n6 c6,.int .i64 act],.agg #[.int .u8 14,.int .i64 lw,.int .u64 lh,.int .u64 ll,.string hd,.string nm,.int .i64 eh,.int .i64 el,.slice (some pa) en ec]] (.returned (.agg #[.int .i64 tw,.bool false,.bool false])):=by
 intro y0
 have ka:=ka.up y0
 have ko:=ko.up y0
 have ma:=ma.plus y0
 obtain⟨V,hV⟩:∃ V,plus w y0=V:=⟨_,rfl⟩
 rw [hV] at ka ko ma ⊢
 clear hV
 have ka':=Lib.hid ka
 have ko':=Lib.hid ko
 have ma':=Lib.hid ma
 clear ka ko ma
 go_enter Tryz.func28,Tryz.ntmps28
 go_upto_region 1 with (fail)
 obtain⟨X,Y0,hX,⟨zX,hzX⟩,-,ca,cb,cc,fc⟩:=box3f V _ _ _ 90 45 75
 rw [hX]
 have g0:=ca 0 _ rfl
 have g1:=ca 1 _ rfl
 have g2:=ca 2 _ rfl
 have g3:=ca 3 _ rfl
 have g4:=ca 4 _ rfl
 have g5:=ca 5 _ rfl
 have g6:=ca 6 _ rfl
 have g7:=ca 7 _ rfl
 have b0:=cb 0 _ rfl
 have b1:=cb 1 _ rfl
 have b2:=cb 2 _ rfl
 have b3:=cb 3 _ rfl
 have b4:=cb 4 _ rfl
 have b5:=cb 5 _ rfl
 have b6:=cb 6 _ rfl
 have b7:=cb 7 _ rfl
 have b8:=cb 8 _ rfl
 have hR:=Lib.hid (rb_of ⟨zX,hzX⟩ (show V.heap.size≤V.heap.size+1+1 by omega) cc fc)
 have qka:=Lib.hid (atsE_of (kpE_up hzX ka'.out))
 have qko:=Lib.hid (atsE_of (kpE_up hzX ko'.out))
 have uma:=cells_up hzX ma'.out
 have a0:=fun y=>(uma.plus y).c0 _ rfl
 have a1:=fun y=>(uma.plus y).cs 0 _ rfl
 have a2:=fun y=>(uma.plus y).cs 1 _ rfl
 have a3:=fun y=>(uma.plus y).cs 2 _ rfl
 have a4:=fun y=>(uma.plus y).cs 3 _ rfl
 have a5:=fun y=>(uma.plus y).cs 4 _ rfl
 have a6:=fun y=>(uma.plus y).cs 5 _ rfl
 have a7:=fun y=>(uma.plus y).cs 6 _ rfl
 have a8:=fun y=>(uma.plus y).cs 7 _ rfl
 clear uma
 have hz3:=Lib.hid hzX
 clear hX ca cb cc fc hzX ka' ko' ma'
 go_upto_region 3 with (fail)
 rw [show ((en:Int) == 0)=false from beq_eq_false_iff_ne.2 (by omega)]
 go_cut [5] from 13 to 18 (fun s5 wx=>∃ b:Nat,s5=.pointer (some ⟨b,0,none⟩)∧Got8 X b ⟨tw,false,false⟩ wx)
 case first =>
  refine wp_region_held_drew (S:=fun U=>∃ z,U=plus X z) (by kernel_rfl) ⟨⟨Y0.blocks,Y0.draws+1⟩,rfl⟩ (fun hHeld=>?_)
  obtain⟨U0,hU0⟩:∃ U,(plus X Y0).drew=U:=⟨_,rfl⟩
  rw [hU0] at hHeld ⊢
  clear hU0
  refine wpAnyH_take (i:=0) (oi:={ dst:=some 13,op:=Op.load 90 (Operand.tmp 2),type:=90,pos:="expr.go:20",after:=#[],guard:=none }) (v:=?v0) rfl (by kernel_rfl) (by kernel_rfl) (by kernel_rfl) (fun _ _ _ h=>h) (Or.inl ⟨by rfl,?h0⟩) hHeld ?r0
  case h0 =>
   rintro _ ⟨z,rfl⟩
   go_simp
   try with_reducible rfl
  simp only [Act.put,List.setIfInBounds_toArray,List.set_cons_zero,List.set_cons_succ]
  refine wpAnyH_take (i:=1) (oi:={ dst:=some 14,op:=Op.fieldAddr 45 (Operand.tmp 3) 6,type:=0,pos:="expr.go:20",after:=#[],guard:=none }) (v:=?v1) rfl (by kernel_rfl) (by kernel_rfl) (by kernel_rfl) (fun _ _ _ h=>h) (Or.inl ⟨by rfl,?h1⟩) hHeld ?r1
  case h1 =>
   rintro _ ⟨z,rfl⟩
   go_simp
   try with_reducible rfl
  simp only [Act.put,List.setIfInBounds_toArray,List.set_cons_zero,List.set_cons_succ]
  refine wpAnyH_take (i:=2) (oi:={ dst:=some 15,op:=Op.load 43 (Operand.tmp 14),type:=43,pos:="expr.go:20",after:=#[{ on:=1,ground:=Ground.data }],guard:=none }) (v:=?v2) rfl (by kernel_rfl) (by kernel_rfl) (by kernel_rfl) (fun _ _ _ h=>h) (Or.inl ⟨by rfl,?h2⟩) hHeld ?r2
  case h2 =>
   rintro _ ⟨z,rfl⟩
   go_simp
   try with_reducible rfl
  simp only [Act.put,List.setIfInBounds_toArray,List.set_cons_zero,List.set_cons_succ]
  refine wpAnyH_take (i:=3) (oi:={ dst:=some 16,op:=Op.indexAddr 43 (Operand.tmp 15) (Operand.const (Value.int IntKind.i64 0)),type:=0,pos:="expr.go:20",after:=#[{ on:=2,ground:=Ground.data }],guard:=none }) (v:=?v3) rfl (by kernel_rfl) (by kernel_rfl) (by kernel_rfl) (fun _ _ _ h=>h) (Or.inl ⟨by rfl,?h3⟩) hHeld ?r3
  case h3 =>
   rintro _ ⟨z,rfl⟩
   go_simp
   try with_reducible rfl
  simp only [Act.put,List.setIfInBounds_toArray,List.set_cons_zero,List.set_cons_succ]
  refine wpAnyH_take (i:=4) (oi:={ dst:=some 17,op:=Op.load 45 (Operand.tmp 16),type:=45,pos:="expr.go:20",after:=#[{ on:=3,ground:=Ground.data }],guard:=none }) (v:=?v4) rfl (by kernel_rfl) (by kernel_rfl) (by kernel_rfl) (fun _ _ _ h=>h) (Or.inl ⟨by rfl,?h4⟩) hHeld ?r4
  case h4 =>
   rintro _ ⟨z,rfl⟩
   go_simp
   try with_reducible rfl
  simp only [Act.put,List.setIfInBounds_toArray,List.set_cons_zero,List.set_cons_succ]
  refine wpAnyH_ready (rs:=[5,6]) (by kernel_rfl) (by simp) ?_
  refine AllReadyH.cons (o:={ dst:=some 18,op:=Op.call { callee:=Callee.value (Operand.func 28),args:=#[Operand.tmp 13,Operand.tmp 17],argTypes:=#[90,45] },type:=75,pos:="expr.go:20",after:=#[{ on:=0,ground:=Ground.data },{ on:=4,ground:=Ground.data }],guard:=none }) rfl (fun K hK=>?_) ?_
  ·go_simp
   refine (qka.out _ hHeld).mono ?_
   rintro r w' ⟨rfl,x1,rfl⟩
   refine hK.out _ _ (up_plus hHeld x1) (fun hHeld2=>?_)
   clear hK K hHeld
   obtain⟨U1,hU1⟩:∃ U,plus U0 x1=U:=⟨_,rfl⟩
   rw [hU1] at hHeld2 ⊢
   clear hU1
   refine wpAnyH_ready (rs:=[6]) (by kernel_rfl) (by simp) ?_
   refine AllReadyH.cons (o:={ dst:=some 5,op:=Op.alloc 75,type:=0,pos:="expr.go:20",after:=#[],guard:=none }) rfl (fun K hK=>?_) AllReadyH.nil
   go_simp
   refine hK.out _ _ (up_alloc hHeld2 _) (fun hHeld3=>?_)
   clear hK K hHeld3
   have hN:=new8_of hHeld2
   obtain⟨b,hb⟩:∃ b,U1.heap.size=b:=⟨_,rfl⟩
   obtain⟨U2,hU2⟩:∃ U,U1.alloc (.cells #[.int .i64 0,.bool false,.bool false] 75)=U:=⟨_,rfl⟩
   rw [hb,hU2] at hN
   rw [hb,hU2]
   clear hb hU2
   refine wpAnyH_ready (rs:=[7]) (by kernel_rfl) (by simp) ?_
   refine AllReadyH.cons (o:={ dst:=none,op:=Op.store 75 (Operand.tmp 5) (Operand.tmp 18),type:=0,pos:="expr.go:20",after:=#[{ on:=6,ground:=Ground.data },{ on:=5,ground:=Ground.data },{ on:=5,ground:=Ground.chain },{ on:=0,ground:=Ground.phase },{ on:=1,ground:=Ground.phase },{ on:=2,ground:=Ground.phase },{ on:=3,ground:=Ground.phase },{ on:=4,ground:=Ground.phase },{ on:=5,ground:=Ground.phase },{ on:=6,ground:=Ground.phase }],guard:=none }) rfl (fun K hK=>?_) AllReadyH.nil
   have r0:=hN.rb.r0
   have r1:=hN.rb.r1
   have r2:=hN.rb.r2
   have rf:=hN.rb.rf
   go_simp
   refine hK.out _ _ (hN.set ⟨tw,false,false⟩).up (fun _=>?_)
   clear hK K r0 r1 r2 rf
   refine wpAnyH_done (by kernel_rfl) ?_ _
   go_wp2_with fail
   go_meet
   exact⟨b,rfl,hN.set ⟨tw,false,false⟩⟩
  refine AllReadyH.cons (o:={ dst:=some 5,op:=Op.alloc 75,type:=0,pos:="expr.go:20",after:=#[],guard:=none }) rfl (fun K hK=>?_) AllReadyH.nil
  go_simp
  refine hK.out _ _ (up_alloc hHeld _) (fun hHeld2=>?_)
  clear hK K
  have hN:=new8_of hHeld
  obtain⟨b,hb⟩:∃ b,U0.heap.size=b:=⟨_,rfl⟩
  obtain⟨U2,hU2⟩:∃ U,U0.alloc (.cells #[.int .i64 0,.bool false,.bool false] 75)=U:=⟨_,rfl⟩
  rw [hb,hU2] at hN
  rw [hb,hU2]
  clear hb hU2
  clear hHeld2
  have hHeld2:=hN.rb.up
  refine wpAnyH_ready (rs:=[5]) (by kernel_rfl) (by simp) ?_
  refine AllReadyH.cons (o:={ dst:=some 18,op:=Op.call { callee:=Callee.value (Operand.func 28),args:=#[Operand.tmp 13,Operand.tmp 17],argTypes:=#[90,45] },type:=75,pos:="expr.go:20",after:=#[{ on:=0,ground:=Ground.data },{ on:=4,ground:=Ground.data }],guard:=none }) rfl (fun K hK=>?_) AllReadyH.nil
  go_simp
  refine (qka.out _ hHeld2).mono ?_
  rintro r w' ⟨rfl,x1,rfl⟩
  refine hK.out _ _ (up_plus hHeld2 x1) (fun hHeld3=>?_)
  clear hK K hHeld3
  replace hN:=hN.plus x1
  refine wpAnyH_ready (rs:=[7]) (by kernel_rfl) (by simp) ?_
  refine AllReadyH.cons (o:={ dst:=none,op:=Op.store 75 (Operand.tmp 5) (Operand.tmp 18),type:=0,pos:="expr.go:20",after:=#[{ on:=6,ground:=Ground.data },{ on:=5,ground:=Ground.data },{ on:=5,ground:=Ground.chain },{ on:=0,ground:=Ground.phase },{ on:=1,ground:=Ground.phase },{ on:=2,ground:=Ground.phase },{ on:=3,ground:=Ground.phase },{ on:=4,ground:=Ground.phase },{ on:=5,ground:=Ground.phase },{ on:=6,ground:=Ground.phase }],guard:=none }) rfl (fun K hK=>?_) AllReadyH.nil
  have r0:=hN.rb.r0
  have r1:=hN.rb.r1
  have r2:=hN.rb.r2
  have rf:=hN.rb.rf
  go_simp
  refine hK.out _ _ (hN.set ⟨tw,false,false⟩).up (fun _=>?_)
  clear hK K r0 r1 r2 rf
  refine wpAnyH_done (by kernel_rfl) ?_ _
  go_wp2_with fail
  go_meet
  exact⟨b,rfl,hN.set ⟨tw,false,false⟩⟩
 case rest =>
  clear a0 a1 a2 a3 a4 a5 a6 a7 a8
  obtain⟨b,rfl,hG⟩:=hcut
  obtain⟨zc,hzc⟩:=hG.up
  have hcu:=Lib.hid (show ∀ y,∃ z,plus wc y=plus X z from fun y=>up_plus hG.up y)
  have hR2:=Lib.hid (show ∀ y,RB V (V.heap.size+1+1) (plus wc y) from fun y=>by rw [hzc,plus_plus];exact hR.out _)
  have t0:=fun y=>(cell_plus wc y b 0 hG.lt).trans hG.t0
  have t1:=fun y=>(cell_plus wc y b 1 hG.lt).trans hG.t1
  have t2:=fun y=>(cell_plus wc y b 2 hG.lt).trans hG.t2
  replace g0:=lift8 hzc g0
  replace g1:=lift8 hzc g1
  replace g2:=lift8 hzc g2
  replace g3:=lift8 hzc g3
  replace g4:=lift8 hzc g4
  replace g5:=lift8 hzc g5
  replace g6:=lift8 hzc g6
  replace g7:=lift8 hzc g7
  replace b0:=lift8 hzc b0
  replace b1:=lift8 hzc b1
  replace b2:=lift8 hzc b2
  replace b3:=lift8 hzc b3
  replace b4:=lift8 hzc b4
  replace b5:=lift8 hzc b5
  replace b6:=lift8 hzc b6
  replace b7:=lift8 hzc b7
  replace b8:=lift8 hzc b8
  have hz4:=Lib.hid (show ∃ z,wc=plus V z by rw [hzc,hz3.out,plus_plus];exact⟨_,rfl⟩)
  clear hG hzc hR hz3
  rw [← plus_self wc]
  obtain⟨Yc,hYc⟩:∃ Y:Ext,(⟨#[],wc.drawn⟩:Ext)=Y:=⟨_,rfl⟩
  rw [hYc]
  clear hYc
  go_wp2_with fail
  refine (qko.out _ (hcu.out _)).mono ?_
  rintro r w' ⟨rfl,x5,rfl⟩
  clear qko
  rw [plus_plus]
  obtain⟨Y5,hY5⟩:∃ Y:Ext,(⟨Ext.blocks Yc++Ext.blocks x5,Ext.draws x5⟩:Ext)=Y:=⟨_,rfl⟩
  rw [hY5]
  clear hY5
  go_wp2_with fail
  refine (t_bits tw wc Y5).mono ?_
  rintro r w' ⟨rfl,x6,rfl⟩
  rw [plus_plus]
  obtain⟨Y6,hY6⟩:∃ Y:Ext,(⟨Ext.blocks Y5++Ext.blocks x6,Ext.draws x6⟩:Ext)=Y:=⟨_,rfl⟩
  rw [hY6]
  clear hY6
  simp only [Ty.v,tyW]
  have hRU:=hR2.out Y6
  have r0:=hRU.r0
  have r1:=hRU.r1
  have r2:=hRU.r2
  have rf:=hRU.rf
  have hRU':=Lib.hid hRU
  clear hRU hR2
  go_wp2
  obtain⟨Z,hZ,g0,g1,g2,hV⟩:=hRU'.out.set ⟨tw,false,false⟩
  simp only at hZ
  rw [hZ]
  clear hZ
  exact bodyPost_ret (v:=.agg #[.int .i64 tw,.bool false,.bool false]) (by simp [results,Tryz.results28,go_sem,g0,g1,g2]) rfl ⟨rfl,hV⟩
set_option maxRecDepth 100000 in
set_option maxHeartbeats 16000000 in
theorem typeOf_sh14E (p0:Option Addr) (n0 c0:Nat) (p1:Option Addr) (n1 c1:Nat) (p2:Option Addr) (n2 c2:Nat) (p3:Option Addr) (n3 c3:Nat) (p4:Option Addr) (n4 c4:Nat) (p5:Option Addr) (n5 c5:Nat) (p6:Option Addr) (n6 c6:Nat) (act:Int) (lw lh ll:Int) (hd nm:ByteArray) (eh el:Int) (pa:Addr) (en ec:Nat) (tw:Int) (tt tf:Bool) (r2:Int)(aop alw alh all:Int) (ahd anm:ByteArray) (aeh ael:Int) (ap:Option Addr) (an ac:Nat) (w:World)
  (h0:0 < en)
  (ma:CellsAt w pa [.int .u8 aop,.int .i64 alw,.int .u64 alh,.int .u64 all,.string ahd,.string anm,.int .i64 aeh,.int .i64 ael,.slice ap an ac])
  (ka:KpE Tryz.prog w 28 #[.agg #[.slice p0 n0 c0,.slice p1 n1 c1,.slice p2 n2 c2,.slice p3 n3 c3,.slice p4 n4 c4,.slice p5 n5 c5,.slice p6 n6 c6,.int .i64 act],.agg #[.int .u8 aop,.int .i64 alw,.int .u64 alh,.int .u64 all,.string ahd,.string anm,.int .i64 aeh,.int .i64 ael,.slice ap an ac]] (.returned (.agg #[.int .i64 tw,.bool tt,.bool tf])))
  (ko:KpE Tryz.prog w 49 #[.agg #[.int .i64 tw,.bool tt,.bool tf]] (gaveE r2)) :
  KpE Tryz.prog w 28 #[.agg #[.slice p0 n0 c0,.slice p1 n1 c1,.slice p2 n2 c2,.slice p3 n3 c3,.slice p4 n4 c4,.slice p5 n5 c5,.slice p6 n6 c6,.int .i64 act],.agg #[.int .u8 14,.int .i64 lw,.int .u64 lh,.int .u64 ll,.string hd,.string nm,.int .i64 eh,.int .i64 el,.slice (some pa) en ec]] (gaveE r2):=by
 intro y0
 have ka:=ka.up y0
 have ko:=ko.up y0
 have ma:=ma.plus y0
 obtain⟨V,hV⟩:∃ V,plus w y0=V:=⟨_,rfl⟩
 rw [hV] at ka ko ma ⊢
 clear hV
 have ka':=Lib.hid ka
 have ko':=Lib.hid ko
 have ma':=Lib.hid ma
 clear ka ko ma
 go_enter Tryz.func28,Tryz.ntmps28
 go_upto_region 1 with (fail)
 obtain⟨X,Y0,hX,⟨zX,hzX⟩,-,ca,cb,cc,fc⟩:=box3f V _ _ _ 90 45 75
 rw [hX]
 have g0:=ca 0 _ rfl
 have g1:=ca 1 _ rfl
 have g2:=ca 2 _ rfl
 have g3:=ca 3 _ rfl
 have g4:=ca 4 _ rfl
 have g5:=ca 5 _ rfl
 have g6:=ca 6 _ rfl
 have g7:=ca 7 _ rfl
 have b0:=cb 0 _ rfl
 have b1:=cb 1 _ rfl
 have b2:=cb 2 _ rfl
 have b3:=cb 3 _ rfl
 have b4:=cb 4 _ rfl
 have b5:=cb 5 _ rfl
 have b6:=cb 6 _ rfl
 have b7:=cb 7 _ rfl
 have b8:=cb 8 _ rfl
 have hR:=Lib.hid (rb_of ⟨zX,hzX⟩ (show V.heap.size≤V.heap.size+1+1 by omega) cc fc)
 have qka:=Lib.hid (atsE_of (kpE_up hzX ka'.out))
 have qko:=Lib.hid (atsE_of (kpE_up hzX ko'.out))
 have uma:=cells_up hzX ma'.out
 have a0:=fun y=>(uma.plus y).c0 _ rfl
 have a1:=fun y=>(uma.plus y).cs 0 _ rfl
 have a2:=fun y=>(uma.plus y).cs 1 _ rfl
 have a3:=fun y=>(uma.plus y).cs 2 _ rfl
 have a4:=fun y=>(uma.plus y).cs 3 _ rfl
 have a5:=fun y=>(uma.plus y).cs 4 _ rfl
 have a6:=fun y=>(uma.plus y).cs 5 _ rfl
 have a7:=fun y=>(uma.plus y).cs 6 _ rfl
 have a8:=fun y=>(uma.plus y).cs 7 _ rfl
 clear uma
 have hz3:=Lib.hid hzX
 clear hX ca cb cc fc hzX ka' ko' ma'
 go_upto_region 3 with (fail)
 rw [show ((en:Int) == 0)=false from beq_eq_false_iff_ne.2 (by omega)]
 go_cut [5] from 13 to 18 (fun s5 wx=>∃ b:Nat,s5=.pointer (some ⟨b,0,none⟩)∧Got8 X b ⟨tw,tt,tf⟩ wx)
 case first =>
  refine wp_region_held_drew (S:=fun U=>∃ z,U=plus X z) (by kernel_rfl) ⟨⟨Y0.blocks,Y0.draws+1⟩,rfl⟩ (fun hHeld=>?_)
  obtain⟨U0,hU0⟩:∃ U,(plus X Y0).drew=U:=⟨_,rfl⟩
  rw [hU0] at hHeld ⊢
  clear hU0
  refine wpAnyH_take (i:=0) (oi:={ dst:=some 13,op:=Op.load 90 (Operand.tmp 2),type:=90,pos:="expr.go:20",after:=#[],guard:=none }) (v:=?v0) rfl (by kernel_rfl) (by kernel_rfl) (by kernel_rfl) (fun _ _ _ h=>h) (Or.inl ⟨by rfl,?h0⟩) hHeld ?r0
  case h0 =>
   rintro _ ⟨z,rfl⟩
   go_simp
   try with_reducible rfl
  simp only [Act.put,List.setIfInBounds_toArray,List.set_cons_zero,List.set_cons_succ]
  refine wpAnyH_take (i:=1) (oi:={ dst:=some 14,op:=Op.fieldAddr 45 (Operand.tmp 3) 6,type:=0,pos:="expr.go:20",after:=#[],guard:=none }) (v:=?v1) rfl (by kernel_rfl) (by kernel_rfl) (by kernel_rfl) (fun _ _ _ h=>h) (Or.inl ⟨by rfl,?h1⟩) hHeld ?r1
  case h1 =>
   rintro _ ⟨z,rfl⟩
   go_simp
   try with_reducible rfl
  simp only [Act.put,List.setIfInBounds_toArray,List.set_cons_zero,List.set_cons_succ]
  refine wpAnyH_take (i:=2) (oi:={ dst:=some 15,op:=Op.load 43 (Operand.tmp 14),type:=43,pos:="expr.go:20",after:=#[{ on:=1,ground:=Ground.data }],guard:=none }) (v:=?v2) rfl (by kernel_rfl) (by kernel_rfl) (by kernel_rfl) (fun _ _ _ h=>h) (Or.inl ⟨by rfl,?h2⟩) hHeld ?r2
  case h2 =>
   rintro _ ⟨z,rfl⟩
   go_simp
   try with_reducible rfl
  simp only [Act.put,List.setIfInBounds_toArray,List.set_cons_zero,List.set_cons_succ]
  refine wpAnyH_take (i:=3) (oi:={ dst:=some 16,op:=Op.indexAddr 43 (Operand.tmp 15) (Operand.const (Value.int IntKind.i64 0)),type:=0,pos:="expr.go:20",after:=#[{ on:=2,ground:=Ground.data }],guard:=none }) (v:=?v3) rfl (by kernel_rfl) (by kernel_rfl) (by kernel_rfl) (fun _ _ _ h=>h) (Or.inl ⟨by rfl,?h3⟩) hHeld ?r3
  case h3 =>
   rintro _ ⟨z,rfl⟩
   go_simp
   try with_reducible rfl
  simp only [Act.put,List.setIfInBounds_toArray,List.set_cons_zero,List.set_cons_succ]
  refine wpAnyH_take (i:=4) (oi:={ dst:=some 17,op:=Op.load 45 (Operand.tmp 16),type:=45,pos:="expr.go:20",after:=#[{ on:=3,ground:=Ground.data }],guard:=none }) (v:=?v4) rfl (by kernel_rfl) (by kernel_rfl) (by kernel_rfl) (fun _ _ _ h=>h) (Or.inl ⟨by rfl,?h4⟩) hHeld ?r4
  case h4 =>
   rintro _ ⟨z,rfl⟩
   go_simp
   try with_reducible rfl
  simp only [Act.put,List.setIfInBounds_toArray,List.set_cons_zero,List.set_cons_succ]
  refine wpAnyH_ready (rs:=[5,6]) (by kernel_rfl) (by simp) ?_
  refine AllReadyH.cons (o:={ dst:=some 18,op:=Op.call { callee:=Callee.value (Operand.func 28),args:=#[Operand.tmp 13,Operand.tmp 17],argTypes:=#[90,45] },type:=75,pos:="expr.go:20",after:=#[{ on:=0,ground:=Ground.data },{ on:=4,ground:=Ground.data }],guard:=none }) rfl (fun K hK=>?_) ?_
  ·go_simp
   refine (qka.out _ hHeld).mono ?_
   rintro r w' ⟨rfl,x1,rfl⟩
   refine hK.out _ _ (up_plus hHeld x1) (fun hHeld2=>?_)
   clear hK K hHeld
   obtain⟨U1,hU1⟩:∃ U,plus U0 x1=U:=⟨_,rfl⟩
   rw [hU1] at hHeld2 ⊢
   clear hU1
   refine wpAnyH_ready (rs:=[6]) (by kernel_rfl) (by simp) ?_
   refine AllReadyH.cons (o:={ dst:=some 5,op:=Op.alloc 75,type:=0,pos:="expr.go:20",after:=#[],guard:=none }) rfl (fun K hK=>?_) AllReadyH.nil
   go_simp
   refine hK.out _ _ (up_alloc hHeld2 _) (fun hHeld3=>?_)
   clear hK K hHeld3
   have hN:=new8_of hHeld2
   obtain⟨b,hb⟩:∃ b,U1.heap.size=b:=⟨_,rfl⟩
   obtain⟨U2,hU2⟩:∃ U,U1.alloc (.cells #[.int .i64 0,.bool false,.bool false] 75)=U:=⟨_,rfl⟩
   rw [hb,hU2] at hN
   rw [hb,hU2]
   clear hb hU2
   refine wpAnyH_ready (rs:=[7]) (by kernel_rfl) (by simp) ?_
   refine AllReadyH.cons (o:={ dst:=none,op:=Op.store 75 (Operand.tmp 5) (Operand.tmp 18),type:=0,pos:="expr.go:20",after:=#[{ on:=6,ground:=Ground.data },{ on:=5,ground:=Ground.data },{ on:=5,ground:=Ground.chain },{ on:=0,ground:=Ground.phase },{ on:=1,ground:=Ground.phase },{ on:=2,ground:=Ground.phase },{ on:=3,ground:=Ground.phase },{ on:=4,ground:=Ground.phase },{ on:=5,ground:=Ground.phase },{ on:=6,ground:=Ground.phase }],guard:=none }) rfl (fun K hK=>?_) AllReadyH.nil
   have r0:=hN.rb.r0
   have r1:=hN.rb.r1
   have r2:=hN.rb.r2
   have rf:=hN.rb.rf
   go_simp
   refine hK.out _ _ (hN.set ⟨tw,tt,tf⟩).up (fun _=>?_)
   clear hK K r0 r1 r2 rf
   refine wpAnyH_done (by kernel_rfl) ?_ _
   go_wp2_with fail
   go_meet
   exact⟨b,rfl,hN.set ⟨tw,tt,tf⟩⟩
  refine AllReadyH.cons (o:={ dst:=some 5,op:=Op.alloc 75,type:=0,pos:="expr.go:20",after:=#[],guard:=none }) rfl (fun K hK=>?_) AllReadyH.nil
  go_simp
  refine hK.out _ _ (up_alloc hHeld _) (fun hHeld2=>?_)
  clear hK K
  have hN:=new8_of hHeld
  obtain⟨b,hb⟩:∃ b,U0.heap.size=b:=⟨_,rfl⟩
  obtain⟨U2,hU2⟩:∃ U,U0.alloc (.cells #[.int .i64 0,.bool false,.bool false] 75)=U:=⟨_,rfl⟩
  rw [hb,hU2] at hN
  rw [hb,hU2]
  clear hb hU2
  clear hHeld2
  have hHeld2:=hN.rb.up
  refine wpAnyH_ready (rs:=[5]) (by kernel_rfl) (by simp) ?_
  refine AllReadyH.cons (o:={ dst:=some 18,op:=Op.call { callee:=Callee.value (Operand.func 28),args:=#[Operand.tmp 13,Operand.tmp 17],argTypes:=#[90,45] },type:=75,pos:="expr.go:20",after:=#[{ on:=0,ground:=Ground.data },{ on:=4,ground:=Ground.data }],guard:=none }) rfl (fun K hK=>?_) AllReadyH.nil
  go_simp
  refine (qka.out _ hHeld2).mono ?_
  rintro r w' ⟨rfl,x1,rfl⟩
  refine hK.out _ _ (up_plus hHeld2 x1) (fun hHeld3=>?_)
  clear hK K hHeld3
  replace hN:=hN.plus x1
  refine wpAnyH_ready (rs:=[7]) (by kernel_rfl) (by simp) ?_
  refine AllReadyH.cons (o:={ dst:=none,op:=Op.store 75 (Operand.tmp 5) (Operand.tmp 18),type:=0,pos:="expr.go:20",after:=#[{ on:=6,ground:=Ground.data },{ on:=5,ground:=Ground.data },{ on:=5,ground:=Ground.chain },{ on:=0,ground:=Ground.phase },{ on:=1,ground:=Ground.phase },{ on:=2,ground:=Ground.phase },{ on:=3,ground:=Ground.phase },{ on:=4,ground:=Ground.phase },{ on:=5,ground:=Ground.phase },{ on:=6,ground:=Ground.phase }],guard:=none }) rfl (fun K hK=>?_) AllReadyH.nil
  have r0:=hN.rb.r0
  have r1:=hN.rb.r1
  have r2:=hN.rb.r2
  have rf:=hN.rb.rf
  go_simp
  refine hK.out _ _ (hN.set ⟨tw,tt,tf⟩).up (fun _=>?_)
  clear hK K r0 r1 r2 rf
  refine wpAnyH_done (by kernel_rfl) ?_ _
  go_wp2_with fail
  go_meet
  exact⟨b,rfl,hN.set ⟨tw,tt,tf⟩⟩
 case rest =>
  clear a0 a1 a2 a3 a4 a5 a6 a7 a8
  obtain⟨b,rfl,hG⟩:=hcut
  obtain⟨zc,hzc⟩:=hG.up
  have hcu:=Lib.hid (show ∀ y,∃ z,plus wc y=plus X z from fun y=>up_plus hG.up y)
  have hR2:=Lib.hid (show ∀ y,RB V (V.heap.size+1+1) (plus wc y) from fun y=>by rw [hzc,plus_plus];exact hR.out _)
  have t0:=fun y=>(cell_plus wc y b 0 hG.lt).trans hG.t0
  have t1:=fun y=>(cell_plus wc y b 1 hG.lt).trans hG.t1
  have t2:=fun y=>(cell_plus wc y b 2 hG.lt).trans hG.t2
  replace g0:=lift8 hzc g0
  replace g1:=lift8 hzc g1
  replace g2:=lift8 hzc g2
  replace g3:=lift8 hzc g3
  replace g4:=lift8 hzc g4
  replace g5:=lift8 hzc g5
  replace g6:=lift8 hzc g6
  replace g7:=lift8 hzc g7
  replace b0:=lift8 hzc b0
  replace b1:=lift8 hzc b1
  replace b2:=lift8 hzc b2
  replace b3:=lift8 hzc b3
  replace b4:=lift8 hzc b4
  replace b5:=lift8 hzc b5
  replace b6:=lift8 hzc b6
  replace b7:=lift8 hzc b7
  replace b8:=lift8 hzc b8
  have hz4:=Lib.hid (show ∃ z,wc=plus V z by rw [hzc,hz3.out,plus_plus];exact⟨_,rfl⟩)
  clear hG hzc hR hz3
  rw [← plus_self wc]
  obtain⟨Yc,hYc⟩:∃ Y:Ext,(⟨#[],wc.drawn⟩:Ext)=Y:=⟨_,rfl⟩
  rw [hYc]
  clear hYc
  go_wp2_with fail
  refine (qko.out _ (hcu.out _)).mono ?_
  rintro r w' ⟨rfl,x5,rfl⟩
  clear qko
  go_wp2
  obtain⟨zz,hzz⟩:=hz4.out
  exact⟨rfl,rfl,by rw [hzz,plus_plus,plus_plus];exact⟨_,rfl⟩⟩
set_option maxRecDepth 100000 in
set_option maxHeartbeats 16000000 in
theorem typeOf_sh15 (p0:Option Addr) (n0 c0:Nat) (p1:Option Addr) (n1 c1:Nat) (p2:Option Addr) (n2 c2:Nat) (p3:Option Addr) (n3 c3:Nat) (p4:Option Addr) (n4 c4:Nat) (p5:Option Addr) (n5 c5:Nat) (p6:Option Addr) (n6 c6:Nat) (act:Int) (lw lh ll:Int) (hd nm:ByteArray) (eh el:Int) (pa:Addr) (en ec:Nat) (tw:Int)(aop alw alh all:Int) (ahd anm:ByteArray) (aeh ael:Int) (ap:Option Addr) (an ac:Nat) (w:World)
  (h0:0 < en)
  (ma:CellsAt w pa [.int .u8 aop,.int .i64 alw,.int .u64 alh,.int .u64 all,.string ahd,.string anm,.int .i64 aeh,.int .i64 ael,.slice ap an ac])
  (ka:KpE Tryz.prog w 28 #[.agg #[.slice p0 n0 c0,.slice p1 n1 c1,.slice p2 n2 c2,.slice p3 n3 c3,.slice p4 n4 c4,.slice p5 n5 c5,.slice p6 n6 c6,.int .i64 act],.agg #[.int .u8 aop,.int .i64 alw,.int .u64 alh,.int .u64 all,.string ahd,.string anm,.int .i64 aeh,.int .i64 ael,.slice ap an ac]] (.returned (.agg #[.int .i64 tw,.bool false,.bool false])))
  (ko:KpE Tryz.prog w 49 #[.agg #[.int .i64 tw,.bool false,.bool false]] (.returned (.int .i64 tw))) :
  KpE Tryz.prog w 28 #[.agg #[.slice p0 n0 c0,.slice p1 n1 c1,.slice p2 n2 c2,.slice p3 n3 c3,.slice p4 n4 c4,.slice p5 n5 c5,.slice p6 n6 c6,.int .i64 act],.agg #[.int .u8 15,.int .i64 lw,.int .u64 lh,.int .u64 ll,.string hd,.string nm,.int .i64 eh,.int .i64 el,.slice (some pa) en ec]] (.returned (.agg #[.int .i64 tw,.bool false,.bool false])):=by
 intro y0
 have ka:=ka.up y0
 have ko:=ko.up y0
 have ma:=ma.plus y0
 obtain⟨V,hV⟩:∃ V,plus w y0=V:=⟨_,rfl⟩
 rw [hV] at ka ko ma ⊢
 clear hV
 have ka':=Lib.hid ka
 have ko':=Lib.hid ko
 have ma':=Lib.hid ma
 clear ka ko ma
 go_enter Tryz.func28,Tryz.ntmps28
 go_upto_region 1 with (fail)
 obtain⟨X,Y0,hX,⟨zX,hzX⟩,-,ca,cb,cc,fc⟩:=box3f V _ _ _ 90 45 75
 rw [hX]
 have g0:=ca 0 _ rfl
 have g1:=ca 1 _ rfl
 have g2:=ca 2 _ rfl
 have g3:=ca 3 _ rfl
 have g4:=ca 4 _ rfl
 have g5:=ca 5 _ rfl
 have g6:=ca 6 _ rfl
 have g7:=ca 7 _ rfl
 have b0:=cb 0 _ rfl
 have b1:=cb 1 _ rfl
 have b2:=cb 2 _ rfl
 have b3:=cb 3 _ rfl
 have b4:=cb 4 _ rfl
 have b5:=cb 5 _ rfl
 have b6:=cb 6 _ rfl
 have b7:=cb 7 _ rfl
 have b8:=cb 8 _ rfl
 have hR:=Lib.hid (rb_of ⟨zX,hzX⟩ (show V.heap.size≤V.heap.size+1+1 by omega) cc fc)
 have qka:=Lib.hid (atsE_of (kpE_up hzX ka'.out))
 have qko:=Lib.hid (atsE_of (kpE_up hzX ko'.out))
 have uma:=cells_up hzX ma'.out
 have a0:=fun y=>(uma.plus y).c0 _ rfl
 have a1:=fun y=>(uma.plus y).cs 0 _ rfl
 have a2:=fun y=>(uma.plus y).cs 1 _ rfl
 have a3:=fun y=>(uma.plus y).cs 2 _ rfl
 have a4:=fun y=>(uma.plus y).cs 3 _ rfl
 have a5:=fun y=>(uma.plus y).cs 4 _ rfl
 have a6:=fun y=>(uma.plus y).cs 5 _ rfl
 have a7:=fun y=>(uma.plus y).cs 6 _ rfl
 have a8:=fun y=>(uma.plus y).cs 7 _ rfl
 clear uma
 have hz3:=Lib.hid hzX
 clear hX ca cb cc fc hzX ka' ko' ma'
 go_upto_region 3 with (fail)
 rw [show ((en:Int) == 0)=false from beq_eq_false_iff_ne.2 (by omega)]
 go_cut [5] from 13 to 18 (fun s5 wx=>∃ b:Nat,s5=.pointer (some ⟨b,0,none⟩)∧Got8 X b ⟨tw,false,false⟩ wx)
 case first =>
  refine wp_region_held_drew (S:=fun U=>∃ z,U=plus X z) (by kernel_rfl) ⟨⟨Y0.blocks,Y0.draws+1⟩,rfl⟩ (fun hHeld=>?_)
  obtain⟨U0,hU0⟩:∃ U,(plus X Y0).drew=U:=⟨_,rfl⟩
  rw [hU0] at hHeld ⊢
  clear hU0
  refine wpAnyH_take (i:=0) (oi:={ dst:=some 13,op:=Op.load 90 (Operand.tmp 2),type:=90,pos:="expr.go:20",after:=#[],guard:=none }) (v:=?v0) rfl (by kernel_rfl) (by kernel_rfl) (by kernel_rfl) (fun _ _ _ h=>h) (Or.inl ⟨by rfl,?h0⟩) hHeld ?r0
  case h0 =>
   rintro _ ⟨z,rfl⟩
   go_simp
   try with_reducible rfl
  simp only [Act.put,List.setIfInBounds_toArray,List.set_cons_zero,List.set_cons_succ]
  refine wpAnyH_take (i:=1) (oi:={ dst:=some 14,op:=Op.fieldAddr 45 (Operand.tmp 3) 6,type:=0,pos:="expr.go:20",after:=#[],guard:=none }) (v:=?v1) rfl (by kernel_rfl) (by kernel_rfl) (by kernel_rfl) (fun _ _ _ h=>h) (Or.inl ⟨by rfl,?h1⟩) hHeld ?r1
  case h1 =>
   rintro _ ⟨z,rfl⟩
   go_simp
   try with_reducible rfl
  simp only [Act.put,List.setIfInBounds_toArray,List.set_cons_zero,List.set_cons_succ]
  refine wpAnyH_take (i:=2) (oi:={ dst:=some 15,op:=Op.load 43 (Operand.tmp 14),type:=43,pos:="expr.go:20",after:=#[{ on:=1,ground:=Ground.data }],guard:=none }) (v:=?v2) rfl (by kernel_rfl) (by kernel_rfl) (by kernel_rfl) (fun _ _ _ h=>h) (Or.inl ⟨by rfl,?h2⟩) hHeld ?r2
  case h2 =>
   rintro _ ⟨z,rfl⟩
   go_simp
   try with_reducible rfl
  simp only [Act.put,List.setIfInBounds_toArray,List.set_cons_zero,List.set_cons_succ]
  refine wpAnyH_take (i:=3) (oi:={ dst:=some 16,op:=Op.indexAddr 43 (Operand.tmp 15) (Operand.const (Value.int IntKind.i64 0)),type:=0,pos:="expr.go:20",after:=#[{ on:=2,ground:=Ground.data }],guard:=none }) (v:=?v3) rfl (by kernel_rfl) (by kernel_rfl) (by kernel_rfl) (fun _ _ _ h=>h) (Or.inl ⟨by rfl,?h3⟩) hHeld ?r3
  case h3 =>
   rintro _ ⟨z,rfl⟩
   go_simp
   try with_reducible rfl
  simp only [Act.put,List.setIfInBounds_toArray,List.set_cons_zero,List.set_cons_succ]
  refine wpAnyH_take (i:=4) (oi:={ dst:=some 17,op:=Op.load 45 (Operand.tmp 16),type:=45,pos:="expr.go:20",after:=#[{ on:=3,ground:=Ground.data }],guard:=none }) (v:=?v4) rfl (by kernel_rfl) (by kernel_rfl) (by kernel_rfl) (fun _ _ _ h=>h) (Or.inl ⟨by rfl,?h4⟩) hHeld ?r4
  case h4 =>
   rintro _ ⟨z,rfl⟩
   go_simp
   try with_reducible rfl
  simp only [Act.put,List.setIfInBounds_toArray,List.set_cons_zero,List.set_cons_succ]
  refine wpAnyH_ready (rs:=[5,6]) (by kernel_rfl) (by simp) ?_
  refine AllReadyH.cons (o:={ dst:=some 18,op:=Op.call { callee:=Callee.value (Operand.func 28),args:=#[Operand.tmp 13,Operand.tmp 17],argTypes:=#[90,45] },type:=75,pos:="expr.go:20",after:=#[{ on:=0,ground:=Ground.data },{ on:=4,ground:=Ground.data }],guard:=none }) rfl (fun K hK=>?_) ?_
  ·go_simp
   refine (qka.out _ hHeld).mono ?_
   rintro r w' ⟨rfl,x1,rfl⟩
   refine hK.out _ _ (up_plus hHeld x1) (fun hHeld2=>?_)
   clear hK K hHeld
   obtain⟨U1,hU1⟩:∃ U,plus U0 x1=U:=⟨_,rfl⟩
   rw [hU1] at hHeld2 ⊢
   clear hU1
   refine wpAnyH_ready (rs:=[6]) (by kernel_rfl) (by simp) ?_
   refine AllReadyH.cons (o:={ dst:=some 5,op:=Op.alloc 75,type:=0,pos:="expr.go:20",after:=#[],guard:=none }) rfl (fun K hK=>?_) AllReadyH.nil
   go_simp
   refine hK.out _ _ (up_alloc hHeld2 _) (fun hHeld3=>?_)
   clear hK K hHeld3
   have hN:=new8_of hHeld2
   obtain⟨b,hb⟩:∃ b,U1.heap.size=b:=⟨_,rfl⟩
   obtain⟨U2,hU2⟩:∃ U,U1.alloc (.cells #[.int .i64 0,.bool false,.bool false] 75)=U:=⟨_,rfl⟩
   rw [hb,hU2] at hN
   rw [hb,hU2]
   clear hb hU2
   refine wpAnyH_ready (rs:=[7]) (by kernel_rfl) (by simp) ?_
   refine AllReadyH.cons (o:={ dst:=none,op:=Op.store 75 (Operand.tmp 5) (Operand.tmp 18),type:=0,pos:="expr.go:20",after:=#[{ on:=6,ground:=Ground.data },{ on:=5,ground:=Ground.data },{ on:=5,ground:=Ground.chain },{ on:=0,ground:=Ground.phase },{ on:=1,ground:=Ground.phase },{ on:=2,ground:=Ground.phase },{ on:=3,ground:=Ground.phase },{ on:=4,ground:=Ground.phase },{ on:=5,ground:=Ground.phase },{ on:=6,ground:=Ground.phase }],guard:=none }) rfl (fun K hK=>?_) AllReadyH.nil
   have r0:=hN.rb.r0
   have r1:=hN.rb.r1
   have r2:=hN.rb.r2
   have rf:=hN.rb.rf
   go_simp
   refine hK.out _ _ (hN.set ⟨tw,false,false⟩).up (fun _=>?_)
   clear hK K r0 r1 r2 rf
   refine wpAnyH_done (by kernel_rfl) ?_ _
   go_wp2_with fail
   go_meet
   exact⟨b,rfl,hN.set ⟨tw,false,false⟩⟩
  refine AllReadyH.cons (o:={ dst:=some 5,op:=Op.alloc 75,type:=0,pos:="expr.go:20",after:=#[],guard:=none }) rfl (fun K hK=>?_) AllReadyH.nil
  go_simp
  refine hK.out _ _ (up_alloc hHeld _) (fun hHeld2=>?_)
  clear hK K
  have hN:=new8_of hHeld
  obtain⟨b,hb⟩:∃ b,U0.heap.size=b:=⟨_,rfl⟩
  obtain⟨U2,hU2⟩:∃ U,U0.alloc (.cells #[.int .i64 0,.bool false,.bool false] 75)=U:=⟨_,rfl⟩
  rw [hb,hU2] at hN
  rw [hb,hU2]
  clear hb hU2
  clear hHeld2
  have hHeld2:=hN.rb.up
  refine wpAnyH_ready (rs:=[5]) (by kernel_rfl) (by simp) ?_
  refine AllReadyH.cons (o:={ dst:=some 18,op:=Op.call { callee:=Callee.value (Operand.func 28),args:=#[Operand.tmp 13,Operand.tmp 17],argTypes:=#[90,45] },type:=75,pos:="expr.go:20",after:=#[{ on:=0,ground:=Ground.data },{ on:=4,ground:=Ground.data }],guard:=none }) rfl (fun K hK=>?_) AllReadyH.nil
  go_simp
  refine (qka.out _ hHeld2).mono ?_
  rintro r w' ⟨rfl,x1,rfl⟩
  refine hK.out _ _ (up_plus hHeld2 x1) (fun hHeld3=>?_)
  clear hK K hHeld3
  replace hN:=hN.plus x1
  refine wpAnyH_ready (rs:=[7]) (by kernel_rfl) (by simp) ?_
  refine AllReadyH.cons (o:={ dst:=none,op:=Op.store 75 (Operand.tmp 5) (Operand.tmp 18),type:=0,pos:="expr.go:20",after:=#[{ on:=6,ground:=Ground.data },{ on:=5,ground:=Ground.data },{ on:=5,ground:=Ground.chain },{ on:=0,ground:=Ground.phase },{ on:=1,ground:=Ground.phase },{ on:=2,ground:=Ground.phase },{ on:=3,ground:=Ground.phase },{ on:=4,ground:=Ground.phase },{ on:=5,ground:=Ground.phase },{ on:=6,ground:=Ground.phase }],guard:=none }) rfl (fun K hK=>?_) AllReadyH.nil
  have r0:=hN.rb.r0
  have r1:=hN.rb.r1
  have r2:=hN.rb.r2
  have rf:=hN.rb.rf
  go_simp
  refine hK.out _ _ (hN.set ⟨tw,false,false⟩).up (fun _=>?_)
  clear hK K r0 r1 r2 rf
  refine wpAnyH_done (by kernel_rfl) ?_ _
  go_wp2_with fail
  go_meet
  exact⟨b,rfl,hN.set ⟨tw,false,false⟩⟩
 case rest =>
  clear a0 a1 a2 a3 a4 a5 a6 a7 a8
  obtain⟨b,rfl,hG⟩:=hcut
  obtain⟨zc,hzc⟩:=hG.up
  have hcu:=Lib.hid (show ∀ y,∃ z,plus wc y=plus X z from fun y=>up_plus hG.up y)
  have hR2:=Lib.hid (show ∀ y,RB V (V.heap.size+1+1) (plus wc y) from fun y=>by rw [hzc,plus_plus];exact hR.out _)
  have t0:=fun y=>(cell_plus wc y b 0 hG.lt).trans hG.t0
  have t1:=fun y=>(cell_plus wc y b 1 hG.lt).trans hG.t1
  have t2:=fun y=>(cell_plus wc y b 2 hG.lt).trans hG.t2
  replace g0:=lift8 hzc g0
  replace g1:=lift8 hzc g1
  replace g2:=lift8 hzc g2
  replace g3:=lift8 hzc g3
  replace g4:=lift8 hzc g4
  replace g5:=lift8 hzc g5
  replace g6:=lift8 hzc g6
  replace g7:=lift8 hzc g7
  replace b0:=lift8 hzc b0
  replace b1:=lift8 hzc b1
  replace b2:=lift8 hzc b2
  replace b3:=lift8 hzc b3
  replace b4:=lift8 hzc b4
  replace b5:=lift8 hzc b5
  replace b6:=lift8 hzc b6
  replace b7:=lift8 hzc b7
  replace b8:=lift8 hzc b8
  have hz4:=Lib.hid (show ∃ z,wc=plus V z by rw [hzc,hz3.out,plus_plus];exact⟨_,rfl⟩)
  clear hG hzc hR hz3
  rw [← plus_self wc]
  obtain⟨Yc,hYc⟩:∃ Y:Ext,(⟨#[],wc.drawn⟩:Ext)=Y:=⟨_,rfl⟩
  rw [hYc]
  clear hYc
  go_wp2_with fail
  refine (qko.out _ (hcu.out _)).mono ?_
  rintro r w' ⟨rfl,x5,rfl⟩
  clear qko
  rw [plus_plus]
  obtain⟨Y5,hY5⟩:∃ Y:Ext,(⟨Ext.blocks Yc++Ext.blocks x5,Ext.draws x5⟩:Ext)=Y:=⟨_,rfl⟩
  rw [hY5]
  clear hY5
  go_wp2_with fail
  refine (t_bits tw wc Y5).mono ?_
  rintro r w' ⟨rfl,x6,rfl⟩
  rw [plus_plus]
  obtain⟨Y6,hY6⟩:∃ Y:Ext,(⟨Ext.blocks Y5++Ext.blocks x6,Ext.draws x6⟩:Ext)=Y:=⟨_,rfl⟩
  rw [hY6]
  clear hY6
  simp only [Ty.v,tyW]
  have hRU:=hR2.out Y6
  have r0:=hRU.r0
  have r1:=hRU.r1
  have r2:=hRU.r2
  have rf:=hRU.rf
  have hRU':=Lib.hid hRU
  clear hRU hR2
  go_wp2
  obtain⟨Z,hZ,g0,g1,g2,hV⟩:=hRU'.out.set ⟨tw,false,false⟩
  simp only at hZ
  rw [hZ]
  clear hZ
  exact bodyPost_ret (v:=.agg #[.int .i64 tw,.bool false,.bool false]) (by simp [results,Tryz.results28,go_sem,g0,g1,g2]) rfl ⟨rfl,hV⟩
set_option maxRecDepth 100000 in
set_option maxHeartbeats 16000000 in
theorem typeOf_sh15E (p0:Option Addr) (n0 c0:Nat) (p1:Option Addr) (n1 c1:Nat) (p2:Option Addr) (n2 c2:Nat) (p3:Option Addr) (n3 c3:Nat) (p4:Option Addr) (n4 c4:Nat) (p5:Option Addr) (n5 c5:Nat) (p6:Option Addr) (n6 c6:Nat) (act:Int) (lw lh ll:Int) (hd nm:ByteArray) (eh el:Int) (pa:Addr) (en ec:Nat) (tw:Int) (tt tf:Bool) (r2:Int)(aop alw alh all:Int) (ahd anm:ByteArray) (aeh ael:Int) (ap:Option Addr) (an ac:Nat) (w:World)
  (h0:0 < en)
  (ma:CellsAt w pa [.int .u8 aop,.int .i64 alw,.int .u64 alh,.int .u64 all,.string ahd,.string anm,.int .i64 aeh,.int .i64 ael,.slice ap an ac])
  (ka:KpE Tryz.prog w 28 #[.agg #[.slice p0 n0 c0,.slice p1 n1 c1,.slice p2 n2 c2,.slice p3 n3 c3,.slice p4 n4 c4,.slice p5 n5 c5,.slice p6 n6 c6,.int .i64 act],.agg #[.int .u8 aop,.int .i64 alw,.int .u64 alh,.int .u64 all,.string ahd,.string anm,.int .i64 aeh,.int .i64 ael,.slice ap an ac]] (.returned (.agg #[.int .i64 tw,.bool tt,.bool tf])))
  (ko:KpE Tryz.prog w 49 #[.agg #[.int .i64 tw,.bool tt,.bool tf]] (gaveE r2)) :
  KpE Tryz.prog w 28 #[.agg #[.slice p0 n0 c0,.slice p1 n1 c1,.slice p2 n2 c2,.slice p3 n3 c3,.slice p4 n4 c4,.slice p5 n5 c5,.slice p6 n6 c6,.int .i64 act],.agg #[.int .u8 15,.int .i64 lw,.int .u64 lh,.int .u64 ll,.string hd,.string nm,.int .i64 eh,.int .i64 el,.slice (some pa) en ec]] (gaveE r2):=by
 intro y0
 have ka:=ka.up y0
 have ko:=ko.up y0
 have ma:=ma.plus y0
 obtain⟨V,hV⟩:∃ V,plus w y0=V:=⟨_,rfl⟩
 rw [hV] at ka ko ma ⊢
 clear hV
 have ka':=Lib.hid ka
 have ko':=Lib.hid ko
 have ma':=Lib.hid ma
 clear ka ko ma
 go_enter Tryz.func28,Tryz.ntmps28
 go_upto_region 1 with (fail)
 obtain⟨X,Y0,hX,⟨zX,hzX⟩,-,ca,cb,cc,fc⟩:=box3f V _ _ _ 90 45 75
 rw [hX]
 have g0:=ca 0 _ rfl
 have g1:=ca 1 _ rfl
 have g2:=ca 2 _ rfl
 have g3:=ca 3 _ rfl
 have g4:=ca 4 _ rfl
 have g5:=ca 5 _ rfl
 have g6:=ca 6 _ rfl
 have g7:=ca 7 _ rfl
 have b0:=cb 0 _ rfl
 have b1:=cb 1 _ rfl
 have b2:=cb 2 _ rfl
 have b3:=cb 3 _ rfl
 have b4:=cb 4 _ rfl
 have b5:=cb 5 _ rfl
 have b6:=cb 6 _ rfl
 have b7:=cb 7 _ rfl
 have b8:=cb 8 _ rfl
 have hR:=Lib.hid (rb_of ⟨zX,hzX⟩ (show V.heap.size≤V.heap.size+1+1 by omega) cc fc)
 have qka:=Lib.hid (atsE_of (kpE_up hzX ka'.out))
 have qko:=Lib.hid (atsE_of (kpE_up hzX ko'.out))
 have uma:=cells_up hzX ma'.out
 have a0:=fun y=>(uma.plus y).c0 _ rfl
 have a1:=fun y=>(uma.plus y).cs 0 _ rfl
 have a2:=fun y=>(uma.plus y).cs 1 _ rfl
 have a3:=fun y=>(uma.plus y).cs 2 _ rfl
 have a4:=fun y=>(uma.plus y).cs 3 _ rfl
 have a5:=fun y=>(uma.plus y).cs 4 _ rfl
 have a6:=fun y=>(uma.plus y).cs 5 _ rfl
 have a7:=fun y=>(uma.plus y).cs 6 _ rfl
 have a8:=fun y=>(uma.plus y).cs 7 _ rfl
 clear uma
 have hz3:=Lib.hid hzX
 clear hX ca cb cc fc hzX ka' ko' ma'
 go_upto_region 3 with (fail)
 rw [show ((en:Int) == 0)=false from beq_eq_false_iff_ne.2 (by omega)]
 go_cut [5] from 13 to 18 (fun s5 wx=>∃ b:Nat,s5=.pointer (some ⟨b,0,none⟩)∧Got8 X b ⟨tw,tt,tf⟩ wx)
 case first =>
  refine wp_region_held_drew (S:=fun U=>∃ z,U=plus X z) (by kernel_rfl) ⟨⟨Y0.blocks,Y0.draws+1⟩,rfl⟩ (fun hHeld=>?_)
  obtain⟨U0,hU0⟩:∃ U,(plus X Y0).drew=U:=⟨_,rfl⟩
  rw [hU0] at hHeld ⊢
  clear hU0
  refine wpAnyH_take (i:=0) (oi:={ dst:=some 13,op:=Op.load 90 (Operand.tmp 2),type:=90,pos:="expr.go:20",after:=#[],guard:=none }) (v:=?v0) rfl (by kernel_rfl) (by kernel_rfl) (by kernel_rfl) (fun _ _ _ h=>h) (Or.inl ⟨by rfl,?h0⟩) hHeld ?r0
  case h0 =>
   rintro _ ⟨z,rfl⟩
   go_simp
   try with_reducible rfl
  simp only [Act.put,List.setIfInBounds_toArray,List.set_cons_zero,List.set_cons_succ]
  refine wpAnyH_take (i:=1) (oi:={ dst:=some 14,op:=Op.fieldAddr 45 (Operand.tmp 3) 6,type:=0,pos:="expr.go:20",after:=#[],guard:=none }) (v:=?v1) rfl (by kernel_rfl) (by kernel_rfl) (by kernel_rfl) (fun _ _ _ h=>h) (Or.inl ⟨by rfl,?h1⟩) hHeld ?r1
  case h1 =>
   rintro _ ⟨z,rfl⟩
   go_simp
   try with_reducible rfl
  simp only [Act.put,List.setIfInBounds_toArray,List.set_cons_zero,List.set_cons_succ]
  refine wpAnyH_take (i:=2) (oi:={ dst:=some 15,op:=Op.load 43 (Operand.tmp 14),type:=43,pos:="expr.go:20",after:=#[{ on:=1,ground:=Ground.data }],guard:=none }) (v:=?v2) rfl (by kernel_rfl) (by kernel_rfl) (by kernel_rfl) (fun _ _ _ h=>h) (Or.inl ⟨by rfl,?h2⟩) hHeld ?r2
  case h2 =>
   rintro _ ⟨z,rfl⟩
   go_simp
   try with_reducible rfl
  simp only [Act.put,List.setIfInBounds_toArray,List.set_cons_zero,List.set_cons_succ]
  refine wpAnyH_take (i:=3) (oi:={ dst:=some 16,op:=Op.indexAddr 43 (Operand.tmp 15) (Operand.const (Value.int IntKind.i64 0)),type:=0,pos:="expr.go:20",after:=#[{ on:=2,ground:=Ground.data }],guard:=none }) (v:=?v3) rfl (by kernel_rfl) (by kernel_rfl) (by kernel_rfl) (fun _ _ _ h=>h) (Or.inl ⟨by rfl,?h3⟩) hHeld ?r3
  case h3 =>
   rintro _ ⟨z,rfl⟩
   go_simp
   try with_reducible rfl
  simp only [Act.put,List.setIfInBounds_toArray,List.set_cons_zero,List.set_cons_succ]
  refine wpAnyH_take (i:=4) (oi:={ dst:=some 17,op:=Op.load 45 (Operand.tmp 16),type:=45,pos:="expr.go:20",after:=#[{ on:=3,ground:=Ground.data }],guard:=none }) (v:=?v4) rfl (by kernel_rfl) (by kernel_rfl) (by kernel_rfl) (fun _ _ _ h=>h) (Or.inl ⟨by rfl,?h4⟩) hHeld ?r4
  case h4 =>
   rintro _ ⟨z,rfl⟩
   go_simp
   try with_reducible rfl
  simp only [Act.put,List.setIfInBounds_toArray,List.set_cons_zero,List.set_cons_succ]
  refine wpAnyH_ready (rs:=[5,6]) (by kernel_rfl) (by simp) ?_
  refine AllReadyH.cons (o:={ dst:=some 18,op:=Op.call { callee:=Callee.value (Operand.func 28),args:=#[Operand.tmp 13,Operand.tmp 17],argTypes:=#[90,45] },type:=75,pos:="expr.go:20",after:=#[{ on:=0,ground:=Ground.data },{ on:=4,ground:=Ground.data }],guard:=none }) rfl (fun K hK=>?_) ?_
  ·go_simp
   refine (qka.out _ hHeld).mono ?_
   rintro r w' ⟨rfl,x1,rfl⟩
   refine hK.out _ _ (up_plus hHeld x1) (fun hHeld2=>?_)
   clear hK K hHeld
   obtain⟨U1,hU1⟩:∃ U,plus U0 x1=U:=⟨_,rfl⟩
   rw [hU1] at hHeld2 ⊢
   clear hU1
   refine wpAnyH_ready (rs:=[6]) (by kernel_rfl) (by simp) ?_
   refine AllReadyH.cons (o:={ dst:=some 5,op:=Op.alloc 75,type:=0,pos:="expr.go:20",after:=#[],guard:=none }) rfl (fun K hK=>?_) AllReadyH.nil
   go_simp
   refine hK.out _ _ (up_alloc hHeld2 _) (fun hHeld3=>?_)
   clear hK K hHeld3
   have hN:=new8_of hHeld2
   obtain⟨b,hb⟩:∃ b,U1.heap.size=b:=⟨_,rfl⟩
   obtain⟨U2,hU2⟩:∃ U,U1.alloc (.cells #[.int .i64 0,.bool false,.bool false] 75)=U:=⟨_,rfl⟩
   rw [hb,hU2] at hN
   rw [hb,hU2]
   clear hb hU2
   refine wpAnyH_ready (rs:=[7]) (by kernel_rfl) (by simp) ?_
   refine AllReadyH.cons (o:={ dst:=none,op:=Op.store 75 (Operand.tmp 5) (Operand.tmp 18),type:=0,pos:="expr.go:20",after:=#[{ on:=6,ground:=Ground.data },{ on:=5,ground:=Ground.data },{ on:=5,ground:=Ground.chain },{ on:=0,ground:=Ground.phase },{ on:=1,ground:=Ground.phase },{ on:=2,ground:=Ground.phase },{ on:=3,ground:=Ground.phase },{ on:=4,ground:=Ground.phase },{ on:=5,ground:=Ground.phase },{ on:=6,ground:=Ground.phase }],guard:=none }) rfl (fun K hK=>?_) AllReadyH.nil
   have r0:=hN.rb.r0
   have r1:=hN.rb.r1
   have r2:=hN.rb.r2
   have rf:=hN.rb.rf
   go_simp
   refine hK.out _ _ (hN.set ⟨tw,tt,tf⟩).up (fun _=>?_)
   clear hK K r0 r1 r2 rf
   refine wpAnyH_done (by kernel_rfl) ?_ _
   go_wp2_with fail
   go_meet
   exact⟨b,rfl,hN.set ⟨tw,tt,tf⟩⟩
  refine AllReadyH.cons (o:={ dst:=some 5,op:=Op.alloc 75,type:=0,pos:="expr.go:20",after:=#[],guard:=none }) rfl (fun K hK=>?_) AllReadyH.nil
  go_simp
  refine hK.out _ _ (up_alloc hHeld _) (fun hHeld2=>?_)
  clear hK K
  have hN:=new8_of hHeld
  obtain⟨b,hb⟩:∃ b,U0.heap.size=b:=⟨_,rfl⟩
  obtain⟨U2,hU2⟩:∃ U,U0.alloc (.cells #[.int .i64 0,.bool false,.bool false] 75)=U:=⟨_,rfl⟩
  rw [hb,hU2] at hN
  rw [hb,hU2]
  clear hb hU2
  clear hHeld2
  have hHeld2:=hN.rb.up
  refine wpAnyH_ready (rs:=[5]) (by kernel_rfl) (by simp) ?_
  refine AllReadyH.cons (o:={ dst:=some 18,op:=Op.call { callee:=Callee.value (Operand.func 28),args:=#[Operand.tmp 13,Operand.tmp 17],argTypes:=#[90,45] },type:=75,pos:="expr.go:20",after:=#[{ on:=0,ground:=Ground.data },{ on:=4,ground:=Ground.data }],guard:=none }) rfl (fun K hK=>?_) AllReadyH.nil
  go_simp
  refine (qka.out _ hHeld2).mono ?_
  rintro r w' ⟨rfl,x1,rfl⟩
  refine hK.out _ _ (up_plus hHeld2 x1) (fun hHeld3=>?_)
  clear hK K hHeld3
  replace hN:=hN.plus x1
  refine wpAnyH_ready (rs:=[7]) (by kernel_rfl) (by simp) ?_
  refine AllReadyH.cons (o:={ dst:=none,op:=Op.store 75 (Operand.tmp 5) (Operand.tmp 18),type:=0,pos:="expr.go:20",after:=#[{ on:=6,ground:=Ground.data },{ on:=5,ground:=Ground.data },{ on:=5,ground:=Ground.chain },{ on:=0,ground:=Ground.phase },{ on:=1,ground:=Ground.phase },{ on:=2,ground:=Ground.phase },{ on:=3,ground:=Ground.phase },{ on:=4,ground:=Ground.phase },{ on:=5,ground:=Ground.phase },{ on:=6,ground:=Ground.phase }],guard:=none }) rfl (fun K hK=>?_) AllReadyH.nil
  have r0:=hN.rb.r0
  have r1:=hN.rb.r1
  have r2:=hN.rb.r2
  have rf:=hN.rb.rf
  go_simp
  refine hK.out _ _ (hN.set ⟨tw,tt,tf⟩).up (fun _=>?_)
  clear hK K r0 r1 r2 rf
  refine wpAnyH_done (by kernel_rfl) ?_ _
  go_wp2_with fail
  go_meet
  exact⟨b,rfl,hN.set ⟨tw,tt,tf⟩⟩
 case rest =>
  clear a0 a1 a2 a3 a4 a5 a6 a7 a8
  obtain⟨b,rfl,hG⟩:=hcut
  obtain⟨zc,hzc⟩:=hG.up
  have hcu:=Lib.hid (show ∀ y,∃ z,plus wc y=plus X z from fun y=>up_plus hG.up y)
  have hR2:=Lib.hid (show ∀ y,RB V (V.heap.size+1+1) (plus wc y) from fun y=>by rw [hzc,plus_plus];exact hR.out _)
  have t0:=fun y=>(cell_plus wc y b 0 hG.lt).trans hG.t0
  have t1:=fun y=>(cell_plus wc y b 1 hG.lt).trans hG.t1
  have t2:=fun y=>(cell_plus wc y b 2 hG.lt).trans hG.t2
  replace g0:=lift8 hzc g0
  replace g1:=lift8 hzc g1
  replace g2:=lift8 hzc g2
  replace g3:=lift8 hzc g3
  replace g4:=lift8 hzc g4
  replace g5:=lift8 hzc g5
  replace g6:=lift8 hzc g6
  replace g7:=lift8 hzc g7
  replace b0:=lift8 hzc b0
  replace b1:=lift8 hzc b1
  replace b2:=lift8 hzc b2
  replace b3:=lift8 hzc b3
  replace b4:=lift8 hzc b4
  replace b5:=lift8 hzc b5
  replace b6:=lift8 hzc b6
  replace b7:=lift8 hzc b7
  replace b8:=lift8 hzc b8
  have hz4:=Lib.hid (show ∃ z,wc=plus V z by rw [hzc,hz3.out,plus_plus];exact⟨_,rfl⟩)
  clear hG hzc hR hz3
  rw [← plus_self wc]
  obtain⟨Yc,hYc⟩:∃ Y:Ext,(⟨#[],wc.drawn⟩:Ext)=Y:=⟨_,rfl⟩
  rw [hYc]
  clear hYc
  go_wp2_with fail
  refine (qko.out _ (hcu.out _)).mono ?_
  rintro r w' ⟨rfl,x5,rfl⟩
  clear qko
  go_wp2
  obtain⟨zz,hzz⟩:=hz4.out
  exact⟨rfl,rfl,by rw [hzz,plus_plus,plus_plus];exact⟨_,rfl⟩⟩
set_option maxRecDepth 100000 in
set_option maxHeartbeats 16000000 in
theorem typeOf_twoD (p0:Option Addr) (n0 c0:Nat) (p1:Option Addr) (n1 c1:Nat) (p2:Option Addr) (n2 c2:Nat) (p3:Option Addr) (n3 c3:Nat) (p4:Option Addr) (n4 c4:Nat) (p5:Option Addr) (n5 c5:Nat) (p6:Option Addr) (n6 c6:Nat) (act:Int) (lw lh ll:Int) (hd nm:ByteArray) (eh el:Int) (pa:Addr) (en ec:Nat) (op tw:Int) (tt tf:Bool)(aop alw alh all:Int) (ahd anm:ByteArray) (aeh ael:Int) (ap:Option Addr) (an ac:Nat)(dop dlw dlh dll:Int) (dhd dnm:ByteArray) (deh del:Int) (dp:Option Addr) (dn dc:Nat)(r2:Int) (w:World)
  (h0:0 < en)
  (h1:1 < en)
  (hn:((en:Int) == 1)=false)
  (ma:CellsAt w pa [.int .u8 aop,.int .i64 alw,.int .u64 alh,.int .u64 all,.string ahd,.string anm,.int .i64 aeh,.int .i64 ael,.slice ap an ac])
  (md:CellsAt w ⟨pa.block,pa.off+9,none⟩ [.int .u8 dop,.int .i64 dlw,.int .u64 dlh,.int .u64 dll,.string dhd,.string dnm,.int .i64 deh,.int .i64 del,.slice dp dn dc])
  (o14:(op == 14)=false)
  (o15:(op == 15)=false)
  (ka:KpE Tryz.prog w 28 #[.agg #[.slice p0 n0 c0,.slice p1 n1 c1,.slice p2 n2 c2,.slice p3 n3 c3,.slice p4 n4 c4,.slice p5 n5 c5,.slice p6 n6 c6,.int .i64 act],.agg #[.int .u8 aop,.int .i64 alw,.int .u64 alh,.int .u64 all,.string ahd,.string anm,.int .i64 aeh,.int .i64 ael,.slice ap an ac]] (.returned (.agg #[.int .i64 tw,.bool tt,.bool tf])))
  (kd:KpE Tryz.prog w 28 #[.agg #[.slice p0 n0 c0,.slice p1 n1 c1,.slice p2 n2 c2,.slice p3 n3 c3,.slice p4 n4 c4,.slice p5 n5 c5,.slice p6 n6 c6,.int .i64 act],.agg #[.int .u8 dop,.int .i64 dlw,.int .u64 dlh,.int .u64 dll,.string dhd,.string dnm,.int .i64 deh,.int .i64 del,.slice dp dn dc]] (gaveE r2)) :
  KpE Tryz.prog w 28 #[.agg #[.slice p0 n0 c0,.slice p1 n1 c1,.slice p2 n2 c2,.slice p3 n3 c3,.slice p4 n4 c4,.slice p5 n5 c5,.slice p6 n6 c6,.int .i64 act],.agg #[.int .u8 op,.int .i64 lw,.int .u64 lh,.int .u64 ll,.string hd,.string nm,.int .i64 eh,.int .i64 el,.slice (some pa) en ec]] (gaveE r2):=by
 intro y0
 have ka:=ka.up y0
 have kd:=kd.up y0
 have ma:=ma.plus y0
 have md:=md.plus y0
 obtain⟨V,hV⟩:∃ V,plus w y0=V:=⟨_,rfl⟩
 rw [hV] at ka kd ma md ⊢
 clear hV
 have ka':=Lib.hid ka
 have kd':=Lib.hid kd
 have ma':=Lib.hid ma
 have md':=Lib.hid md
 clear ka kd ma md
 go_enter Tryz.func28,Tryz.ntmps28
 go_upto_region 1 with (fail)
 obtain⟨X,Y0,hX,⟨zX,hzX⟩,-,ca,cb,cc,fc⟩:=box3f V _ _ _ 90 45 75
 rw [hX]
 have g0:=ca 0 _ rfl
 have g1:=ca 1 _ rfl
 have g2:=ca 2 _ rfl
 have g3:=ca 3 _ rfl
 have g4:=ca 4 _ rfl
 have g5:=ca 5 _ rfl
 have g6:=ca 6 _ rfl
 have g7:=ca 7 _ rfl
 have b0:=cb 0 _ rfl
 have b1:=cb 1 _ rfl
 have b2:=cb 2 _ rfl
 have b3:=cb 3 _ rfl
 have b4:=cb 4 _ rfl
 have b5:=cb 5 _ rfl
 have b6:=cb 6 _ rfl
 have b7:=cb 7 _ rfl
 have b8:=cb 8 _ rfl
 have hR:=Lib.hid (rb_of ⟨zX,hzX⟩ (show V.heap.size≤V.heap.size+1+1 by omega) cc fc)
 have qka:=Lib.hid (atsE_of (kpE_up hzX ka'.out))
 have qkd:=Lib.hid (atsE_of (kpE_up hzX kd'.out))
 have uma:=cells_up hzX ma'.out
 have a0:=fun y=>(uma.plus y).c0 _ rfl
 have a1:=fun y=>(uma.plus y).cs 0 _ rfl
 have a2:=fun y=>(uma.plus y).cs 1 _ rfl
 have a3:=fun y=>(uma.plus y).cs 2 _ rfl
 have a4:=fun y=>(uma.plus y).cs 3 _ rfl
 have a5:=fun y=>(uma.plus y).cs 4 _ rfl
 have a6:=fun y=>(uma.plus y).cs 5 _ rfl
 have a7:=fun y=>(uma.plus y).cs 6 _ rfl
 have a8:=fun y=>(uma.plus y).cs 7 _ rfl
 clear uma
 have umd:=cells_up hzX md'.out
 have d0:=fun y=>(umd.plus y).c0 _ rfl
 have d1:=fun y=>(umd.plus y).cs 0 _ rfl
 have d2:=fun y=>(umd.plus y).cs 1 _ rfl
 have d3:=fun y=>(umd.plus y).cs 2 _ rfl
 have d4:=fun y=>(umd.plus y).cs 3 _ rfl
 have d5:=fun y=>(umd.plus y).cs 4 _ rfl
 have d6:=fun y=>(umd.plus y).cs 5 _ rfl
 have d7:=fun y=>(umd.plus y).cs 6 _ rfl
 have d8:=fun y=>(umd.plus y).cs 7 _ rfl
 clear umd
 have hz3:=Lib.hid hzX
 clear hX ca cb cc fc hzX ka' kd' ma' md'
 go_upto_region 3 with (fail)
 rw [show ((en:Int) == 0)=false from beq_eq_false_iff_ne.2 (by omega)]
 go_cut [5] from 13 to 18 (fun s5 wx=>∃ b:Nat,s5=.pointer (some ⟨b,0,none⟩)∧Got8 X b ⟨tw,tt,tf⟩ wx)
 case first =>
  refine wp_region_held_drew (S:=fun U=>∃ z,U=plus X z) (by kernel_rfl) ⟨⟨Y0.blocks,Y0.draws+1⟩,rfl⟩ (fun hHeld=>?_)
  obtain⟨U0,hU0⟩:∃ U,(plus X Y0).drew=U:=⟨_,rfl⟩
  rw [hU0] at hHeld ⊢
  clear hU0
  refine wpAnyH_take (i:=0) (oi:={ dst:=some 13,op:=Op.load 90 (Operand.tmp 2),type:=90,pos:="expr.go:20",after:=#[],guard:=none }) (v:=?v0) rfl (by kernel_rfl) (by kernel_rfl) (by kernel_rfl) (fun _ _ _ h=>h) (Or.inl ⟨by rfl,?h0⟩) hHeld ?r0
  case h0 =>
   rintro _ ⟨z,rfl⟩
   go_simp
   try with_reducible rfl
  simp only [Act.put,List.setIfInBounds_toArray,List.set_cons_zero,List.set_cons_succ]
  refine wpAnyH_take (i:=1) (oi:={ dst:=some 14,op:=Op.fieldAddr 45 (Operand.tmp 3) 6,type:=0,pos:="expr.go:20",after:=#[],guard:=none }) (v:=?v1) rfl (by kernel_rfl) (by kernel_rfl) (by kernel_rfl) (fun _ _ _ h=>h) (Or.inl ⟨by rfl,?h1⟩) hHeld ?r1
  case h1 =>
   rintro _ ⟨z,rfl⟩
   go_simp
   try with_reducible rfl
  simp only [Act.put,List.setIfInBounds_toArray,List.set_cons_zero,List.set_cons_succ]
  refine wpAnyH_take (i:=2) (oi:={ dst:=some 15,op:=Op.load 43 (Operand.tmp 14),type:=43,pos:="expr.go:20",after:=#[{ on:=1,ground:=Ground.data }],guard:=none }) (v:=?v2) rfl (by kernel_rfl) (by kernel_rfl) (by kernel_rfl) (fun _ _ _ h=>h) (Or.inl ⟨by rfl,?h2⟩) hHeld ?r2
  case h2 =>
   rintro _ ⟨z,rfl⟩
   go_simp
   try with_reducible rfl
  simp only [Act.put,List.setIfInBounds_toArray,List.set_cons_zero,List.set_cons_succ]
  refine wpAnyH_take (i:=3) (oi:={ dst:=some 16,op:=Op.indexAddr 43 (Operand.tmp 15) (Operand.const (Value.int IntKind.i64 0)),type:=0,pos:="expr.go:20",after:=#[{ on:=2,ground:=Ground.data }],guard:=none }) (v:=?v3) rfl (by kernel_rfl) (by kernel_rfl) (by kernel_rfl) (fun _ _ _ h=>h) (Or.inl ⟨by rfl,?h3⟩) hHeld ?r3
  case h3 =>
   rintro _ ⟨z,rfl⟩
   go_simp
   try with_reducible rfl
  simp only [Act.put,List.setIfInBounds_toArray,List.set_cons_zero,List.set_cons_succ]
  refine wpAnyH_take (i:=4) (oi:={ dst:=some 17,op:=Op.load 45 (Operand.tmp 16),type:=45,pos:="expr.go:20",after:=#[{ on:=3,ground:=Ground.data }],guard:=none }) (v:=?v4) rfl (by kernel_rfl) (by kernel_rfl) (by kernel_rfl) (fun _ _ _ h=>h) (Or.inl ⟨by rfl,?h4⟩) hHeld ?r4
  case h4 =>
   rintro _ ⟨z,rfl⟩
   go_simp
   try with_reducible rfl
  simp only [Act.put,List.setIfInBounds_toArray,List.set_cons_zero,List.set_cons_succ]
  refine wpAnyH_ready (rs:=[5,6]) (by kernel_rfl) (by simp) ?_
  refine AllReadyH.cons (o:={ dst:=some 18,op:=Op.call { callee:=Callee.value (Operand.func 28),args:=#[Operand.tmp 13,Operand.tmp 17],argTypes:=#[90,45] },type:=75,pos:="expr.go:20",after:=#[{ on:=0,ground:=Ground.data },{ on:=4,ground:=Ground.data }],guard:=none }) rfl (fun K hK=>?_) ?_
  ·go_simp
   refine (qka.out _ hHeld).mono ?_
   rintro r w' ⟨rfl,x1,rfl⟩
   refine hK.out _ _ (up_plus hHeld x1) (fun hHeld2=>?_)
   clear hK K hHeld
   obtain⟨U1,hU1⟩:∃ U,plus U0 x1=U:=⟨_,rfl⟩
   rw [hU1] at hHeld2 ⊢
   clear hU1
   refine wpAnyH_ready (rs:=[6]) (by kernel_rfl) (by simp) ?_
   refine AllReadyH.cons (o:={ dst:=some 5,op:=Op.alloc 75,type:=0,pos:="expr.go:20",after:=#[],guard:=none }) rfl (fun K hK=>?_) AllReadyH.nil
   go_simp
   refine hK.out _ _ (up_alloc hHeld2 _) (fun hHeld3=>?_)
   clear hK K hHeld3
   have hN:=new8_of hHeld2
   obtain⟨b,hb⟩:∃ b,U1.heap.size=b:=⟨_,rfl⟩
   obtain⟨U2,hU2⟩:∃ U,U1.alloc (.cells #[.int .i64 0,.bool false,.bool false] 75)=U:=⟨_,rfl⟩
   rw [hb,hU2] at hN
   rw [hb,hU2]
   clear hb hU2
   refine wpAnyH_ready (rs:=[7]) (by kernel_rfl) (by simp) ?_
   refine AllReadyH.cons (o:={ dst:=none,op:=Op.store 75 (Operand.tmp 5) (Operand.tmp 18),type:=0,pos:="expr.go:20",after:=#[{ on:=6,ground:=Ground.data },{ on:=5,ground:=Ground.data },{ on:=5,ground:=Ground.chain },{ on:=0,ground:=Ground.phase },{ on:=1,ground:=Ground.phase },{ on:=2,ground:=Ground.phase },{ on:=3,ground:=Ground.phase },{ on:=4,ground:=Ground.phase },{ on:=5,ground:=Ground.phase },{ on:=6,ground:=Ground.phase }],guard:=none }) rfl (fun K hK=>?_) AllReadyH.nil
   have r0:=hN.rb.r0
   have r1:=hN.rb.r1
   have r2:=hN.rb.r2
   have rf:=hN.rb.rf
   go_simp
   refine hK.out _ _ (hN.set ⟨tw,tt,tf⟩).up (fun _=>?_)
   clear hK K r0 r1 r2 rf
   refine wpAnyH_done (by kernel_rfl) ?_ _
   go_wp2_with fail
   go_meet
   exact⟨b,rfl,hN.set ⟨tw,tt,tf⟩⟩
  refine AllReadyH.cons (o:={ dst:=some 5,op:=Op.alloc 75,type:=0,pos:="expr.go:20",after:=#[],guard:=none }) rfl (fun K hK=>?_) AllReadyH.nil
  go_simp
  refine hK.out _ _ (up_alloc hHeld _) (fun hHeld2=>?_)
  clear hK K
  have hN:=new8_of hHeld
  obtain⟨b,hb⟩:∃ b,U0.heap.size=b:=⟨_,rfl⟩
  obtain⟨U2,hU2⟩:∃ U,U0.alloc (.cells #[.int .i64 0,.bool false,.bool false] 75)=U:=⟨_,rfl⟩
  rw [hb,hU2] at hN
  rw [hb,hU2]
  clear hb hU2
  clear hHeld2
  have hHeld2:=hN.rb.up
  refine wpAnyH_ready (rs:=[5]) (by kernel_rfl) (by simp) ?_
  refine AllReadyH.cons (o:={ dst:=some 18,op:=Op.call { callee:=Callee.value (Operand.func 28),args:=#[Operand.tmp 13,Operand.tmp 17],argTypes:=#[90,45] },type:=75,pos:="expr.go:20",after:=#[{ on:=0,ground:=Ground.data },{ on:=4,ground:=Ground.data }],guard:=none }) rfl (fun K hK=>?_) AllReadyH.nil
  go_simp
  refine (qka.out _ hHeld2).mono ?_
  rintro r w' ⟨rfl,x1,rfl⟩
  refine hK.out _ _ (up_plus hHeld2 x1) (fun hHeld3=>?_)
  clear hK K hHeld3
  replace hN:=hN.plus x1
  refine wpAnyH_ready (rs:=[7]) (by kernel_rfl) (by simp) ?_
  refine AllReadyH.cons (o:={ dst:=none,op:=Op.store 75 (Operand.tmp 5) (Operand.tmp 18),type:=0,pos:="expr.go:20",after:=#[{ on:=6,ground:=Ground.data },{ on:=5,ground:=Ground.data },{ on:=5,ground:=Ground.chain },{ on:=0,ground:=Ground.phase },{ on:=1,ground:=Ground.phase },{ on:=2,ground:=Ground.phase },{ on:=3,ground:=Ground.phase },{ on:=4,ground:=Ground.phase },{ on:=5,ground:=Ground.phase },{ on:=6,ground:=Ground.phase }],guard:=none }) rfl (fun K hK=>?_) AllReadyH.nil
  have r0:=hN.rb.r0
  have r1:=hN.rb.r1
  have r2:=hN.rb.r2
  have rf:=hN.rb.rf
  go_simp
  refine hK.out _ _ (hN.set ⟨tw,tt,tf⟩).up (fun _=>?_)
  clear hK K r0 r1 r2 rf
  refine wpAnyH_done (by kernel_rfl) ?_ _
  go_wp2_with fail
  go_meet
  exact⟨b,rfl,hN.set ⟨tw,tt,tf⟩⟩
 case rest =>
  clear a0 a1 a2 a3 a4 a5 a6 a7 a8
  obtain⟨b,rfl,hG⟩:=hcut
  obtain⟨zc,hzc⟩:=hG.up
  have hcu:=Lib.hid (show ∀ y,∃ z,plus wc y=plus X z from fun y=>up_plus hG.up y)
  have hR2:=Lib.hid (show ∀ y,RB V (V.heap.size+1+1) (plus wc y) from fun y=>by rw [hzc,plus_plus];exact hR.out _)
  have t0:=fun y=>(cell_plus wc y b 0 hG.lt).trans hG.t0
  have t1:=fun y=>(cell_plus wc y b 1 hG.lt).trans hG.t1
  have t2:=fun y=>(cell_plus wc y b 2 hG.lt).trans hG.t2
  replace g0:=lift8 hzc g0
  replace g1:=lift8 hzc g1
  replace g2:=lift8 hzc g2
  replace g3:=lift8 hzc g3
  replace g4:=lift8 hzc g4
  replace g5:=lift8 hzc g5
  replace g6:=lift8 hzc g6
  replace g7:=lift8 hzc g7
  replace b0:=lift8 hzc b0
  replace b1:=lift8 hzc b1
  replace b2:=lift8 hzc b2
  replace b3:=lift8 hzc b3
  replace b4:=lift8 hzc b4
  replace b5:=lift8 hzc b5
  replace b6:=lift8 hzc b6
  replace b7:=lift8 hzc b7
  replace b8:=lift8 hzc b8
  replace d0:=lift8 hzc d0
  replace d1:=lift8 hzc d1
  replace d2:=lift8 hzc d2
  replace d3:=lift8 hzc d3
  replace d4:=lift8 hzc d4
  replace d5:=lift8 hzc d5
  replace d6:=lift8 hzc d6
  replace d7:=lift8 hzc d7
  replace d8:=lift8 hzc d8
  have hcu2:∀ {U:World},(∃ z,U=plus wc z)→∃ z,U=plus X z:=fun h=>by obtain⟨z,rfl⟩:=h;exact hcu.out z
  have hz4:=Lib.hid (show ∃ z,wc=plus V z by rw [hzc,hz3.out,plus_plus];exact⟨_,rfl⟩)
  clear hG hzc hR hz3
  rw [← plus_self wc]
  obtain⟨Yc,hYc⟩:∃ Y:Ext,(⟨#[],wc.drawn⟩:Ext)=Y:=⟨_,rfl⟩
  rw [hYc]
  clear hYc
  go_upto_region 8 with (fail)
  refine wp_region_held_drew (S:=fun U=>∃ z,U=plus wc z) (by kernel_rfl) ⟨⟨Yc.blocks,Yc.draws+1⟩,rfl⟩ (fun hHeld=>?_)
  obtain⟨U0,hU0⟩:∃ U,(plus wc Yc).drew=U:=⟨_,rfl⟩
  rw [hU0] at hHeld ⊢
  clear hU0
  refine wpAnyH_take (i:=0) (oi:={ dst:=some 37,op:=Op.load 45 (Operand.tmp 3),type:=45,pos:="expr.go:28",after:=#[],guard:=none }) (v:=?vb0) rfl (by kernel_rfl) (by kernel_rfl) (by kernel_rfl) (fun _ _ _ h=>h) (Or.inl ⟨by rfl,?hb0⟩) hHeld ?rb0
  case hb0 =>
   rintro _ ⟨z,rfl⟩
   go_simp
   try with_reducible rfl
  simp only [Act.put,List.setIfInBounds_toArray,List.set_cons_zero,List.set_cons_succ]
  refine wpAnyH_take (i:=1) (oi:={ dst:=some 38,op:=Op.load 75 (Operand.tmp 5),type:=75,pos:="expr.go:28",after:=#[],guard:=none }) (v:=?vb1) rfl (by kernel_rfl) (by kernel_rfl) (by kernel_rfl) (fun _ _ _ h=>h) (Or.inl ⟨by rfl,?hb1⟩) hHeld ?rb1
  case hb1 =>
   rintro _ ⟨z,rfl⟩
   go_simp
   try with_reducible rfl
  simp only [Act.put,List.setIfInBounds_toArray,List.set_cons_zero,List.set_cons_succ]
  refine wpAnyH_take (i:=2) (oi:={ dst:=some 39,op:=Op.load 90 (Operand.tmp 2),type:=90,pos:="expr.go:28",after:=#[],guard:=none }) (v:=?vb2) rfl (by kernel_rfl) (by kernel_rfl) (by kernel_rfl) (fun _ _ _ h=>h) (Or.inl ⟨by rfl,?hb2⟩) hHeld ?rb2
  case hb2 =>
   rintro _ ⟨z,rfl⟩
   go_simp
   try with_reducible rfl
  simp only [Act.put,List.setIfInBounds_toArray,List.set_cons_zero,List.set_cons_succ]
  refine wpAnyH_take (i:=3) (oi:={ dst:=some 40,op:=Op.fieldAddr 45 (Operand.tmp 3) 6,type:=0,pos:="expr.go:28",after:=#[],guard:=none }) (v:=?vb3) rfl (by kernel_rfl) (by kernel_rfl) (by kernel_rfl) (fun _ _ _ h=>h) (Or.inl ⟨by rfl,?hb3⟩) hHeld ?rb3
  case hb3 =>
   rintro _ ⟨z,rfl⟩
   go_simp
   try with_reducible rfl
  simp only [Act.put,List.setIfInBounds_toArray,List.set_cons_zero,List.set_cons_succ]
  refine wpAnyH_take (i:=4) (oi:={ dst:=some 41,op:=Op.load 43 (Operand.tmp 40),type:=43,pos:="expr.go:28",after:=#[{ on:=3,ground:=Ground.data }],guard:=none }) (v:=?vb4) rfl (by kernel_rfl) (by kernel_rfl) (by kernel_rfl) (fun _ _ _ h=>h) (Or.inl ⟨by rfl,?hb4⟩) hHeld ?rb4
  case hb4 =>
   rintro _ ⟨z,rfl⟩
   go_simp
   try with_reducible rfl
  simp only [Act.put,List.setIfInBounds_toArray,List.set_cons_zero,List.set_cons_succ]
  refine wpAnyH_take (i:=5) (oi:={ dst:=some 42,op:=Op.indexAddr 43 (Operand.tmp 41) (Operand.const (Value.int IntKind.i64 1)),type:=0,pos:="expr.go:28",after:=#[{ on:=4,ground:=Ground.data }],guard:=none }) (v:=?vb5) rfl (by kernel_rfl) (by kernel_rfl) (by kernel_rfl) (fun _ _ _ h=>h) (Or.inl ⟨by rfl,?hb5⟩) hHeld ?rb5
  case hb5 =>
   rintro _ ⟨z,rfl⟩
   go_simp
   rw [if_pos (show (1:Int) < (en:Int) by omega)]
  simp only [Act.put,List.setIfInBounds_toArray,List.set_cons_zero,List.set_cons_succ]
  refine wpAnyH_take (i:=6) (oi:={ dst:=some 43,op:=Op.load 45 (Operand.tmp 42),type:=45,pos:="expr.go:28",after:=#[{ on:=5,ground:=Ground.data }],guard:=none }) (v:=?vb6) rfl (by kernel_rfl) (by kernel_rfl) (by kernel_rfl) (fun _ _ _ h=>h) (Or.inl ⟨by rfl,?hb6⟩) hHeld ?rb6
  case hb6 =>
   rintro _ ⟨z,rfl⟩
   go_simp
   try with_reducible rfl
  simp only [Act.put,List.setIfInBounds_toArray,List.set_cons_zero,List.set_cons_succ]
  refine wpAnyH_ready (rs:=[7]) (by kernel_rfl) (by simp) ?_
  refine AllReadyH.cons (o:={ dst:=some 44,op:=Op.call { callee:=Callee.value (Operand.func 28),args:=#[Operand.tmp 39,Operand.tmp 43],argTypes:=#[90,45] },type:=75,pos:="expr.go:28",after:=#[{ on:=2,ground:=Ground.data },{ on:=6,ground:=Ground.data }],guard:=none }) rfl (fun K hK=>?_) AllReadyH.nil
  go_simp
  refine (qkd.out _ (hcu2 hHeld)).mono ?_
  rintro r w' ⟨rfl,x1,rfl⟩
  obtain⟨za,hza⟩:=hHeld
  obtain⟨zz,hzz⟩:=hz4.out
  exact⟨rfl,rfl,by rw [hza,hzz,plus_plus,plus_plus];exact⟨_,rfl⟩⟩
set_option maxRecDepth 100000 in
set_option maxHeartbeats 16000000 in
theorem typeOf_twoE (p0:Option Addr) (n0 c0:Nat) (p1:Option Addr) (n1 c1:Nat) (p2:Option Addr) (n2 c2:Nat) (p3:Option Addr) (n3 c3:Nat) (p4:Option Addr) (n4 c4:Nat) (p5:Option Addr) (n5 c5:Nat) (p6:Option Addr) (n6 c6:Nat) (act:Int) (lw lh ll:Int) (hd nm:ByteArray) (eh el:Int) (pa:Addr) (en ec:Nat) (op tw:Int) (tt tf:Bool)(aop alw alh all:Int) (ahd anm:ByteArray) (aeh ael:Int) (ap:Option Addr) (an ac:Nat)(dop dlw dlh dll:Int) (dhd dnm:ByteArray) (deh del:Int) (dp:Option Addr) (dn dc:Nat)(r2 sw:Int) (st sf:Bool) (w:World)
  (h0:0 < en)
  (h1:1 < en)
  (hn:((en:Int) == 1)=false)
  (ma:CellsAt w pa [.int .u8 aop,.int .i64 alw,.int .u64 alh,.int .u64 all,.string ahd,.string anm,.int .i64 aeh,.int .i64 ael,.slice ap an ac])
  (md:CellsAt w ⟨pa.block,pa.off+9,none⟩ [.int .u8 dop,.int .i64 dlw,.int .u64 dlh,.int .u64 dll,.string dhd,.string dnm,.int .i64 deh,.int .i64 del,.slice dp dn dc])
  (o14:(op == 14)=false)
  (o15:(op == 15)=false)
  (ka:KpE Tryz.prog w 28 #[.agg #[.slice p0 n0 c0,.slice p1 n1 c1,.slice p2 n2 c2,.slice p3 n3 c3,.slice p4 n4 c4,.slice p5 n5 c5,.slice p6 n6 c6,.int .i64 act],.agg #[.int .u8 aop,.int .i64 alw,.int .u64 alh,.int .u64 all,.string ahd,.string anm,.int .i64 aeh,.int .i64 ael,.slice ap an ac]] (.returned (.agg #[.int .i64 tw,.bool tt,.bool tf])))
  (kd:KpE Tryz.prog w 28 #[.agg #[.slice p0 n0 c0,.slice p1 n1 c1,.slice p2 n2 c2,.slice p3 n3 c3,.slice p4 n4 c4,.slice p5 n5 c5,.slice p6 n6 c6,.int .i64 act],.agg #[.int .u8 dop,.int .i64 dlw,.int .u64 dlh,.int .u64 dll,.string dhd,.string dnm,.int .i64 deh,.int .i64 del,.slice dp dn dc]] (.returned (.agg #[.int .i64 sw,.bool st,.bool sf])))
  (ko:KpE Tryz.prog w 51 #[.agg #[.int .u8 op,.int .i64 lw,.int .u64 lh,.int .u64 ll,.string hd,.string nm,.int .i64 eh,.int .i64 el,.slice (some pa) en ec],.agg #[.int .i64 tw,.bool tt,.bool tf],.agg #[.int .i64 sw,.bool st,.bool sf]] (gaveE r2)) :
  KpE Tryz.prog w 28 #[.agg #[.slice p0 n0 c0,.slice p1 n1 c1,.slice p2 n2 c2,.slice p3 n3 c3,.slice p4 n4 c4,.slice p5 n5 c5,.slice p6 n6 c6,.int .i64 act],.agg #[.int .u8 op,.int .i64 lw,.int .u64 lh,.int .u64 ll,.string hd,.string nm,.int .i64 eh,.int .i64 el,.slice (some pa) en ec]] (gaveE r2):=by
 intro y0
 have ka:=ka.up y0
 have kd:=kd.up y0
 have ko:=ko.up y0
 have ma:=ma.plus y0
 have md:=md.plus y0
 obtain⟨V,hV⟩:∃ V,plus w y0=V:=⟨_,rfl⟩
 rw [hV] at ka kd ko ma md ⊢
 clear hV
 have ka':=Lib.hid ka
 have kd':=Lib.hid kd
 have ko':=Lib.hid ko
 have ma':=Lib.hid ma
 have md':=Lib.hid md
 clear ka kd ko ma md
 go_enter Tryz.func28,Tryz.ntmps28
 go_upto_region 1 with (fail)
 obtain⟨X,Y0,hX,⟨zX,hzX⟩,-,ca,cb,cc,fc⟩:=box3f V _ _ _ 90 45 75
 rw [hX]
 have g0:=ca 0 _ rfl
 have g1:=ca 1 _ rfl
 have g2:=ca 2 _ rfl
 have g3:=ca 3 _ rfl
 have g4:=ca 4 _ rfl
 have g5:=ca 5 _ rfl
 have g6:=ca 6 _ rfl
 have g7:=ca 7 _ rfl
 have b0:=cb 0 _ rfl
 have b1:=cb 1 _ rfl
 have b2:=cb 2 _ rfl
 have b3:=cb 3 _ rfl
 have b4:=cb 4 _ rfl
 have b5:=cb 5 _ rfl
 have b6:=cb 6 _ rfl
 have b7:=cb 7 _ rfl
 have b8:=cb 8 _ rfl
 have hR:=Lib.hid (rb_of ⟨zX,hzX⟩ (show V.heap.size≤V.heap.size+1+1 by omega) cc fc)
 have qka:=Lib.hid (atsE_of (kpE_up hzX ka'.out))
 have qkd:=Lib.hid (atsE_of (kpE_up hzX kd'.out))
 have qko:=Lib.hid (atsE_of (kpE_up hzX ko'.out))
 have uma:=cells_up hzX ma'.out
 have a0:=fun y=>(uma.plus y).c0 _ rfl
 have a1:=fun y=>(uma.plus y).cs 0 _ rfl
 have a2:=fun y=>(uma.plus y).cs 1 _ rfl
 have a3:=fun y=>(uma.plus y).cs 2 _ rfl
 have a4:=fun y=>(uma.plus y).cs 3 _ rfl
 have a5:=fun y=>(uma.plus y).cs 4 _ rfl
 have a6:=fun y=>(uma.plus y).cs 5 _ rfl
 have a7:=fun y=>(uma.plus y).cs 6 _ rfl
 have a8:=fun y=>(uma.plus y).cs 7 _ rfl
 clear uma
 have umd:=cells_up hzX md'.out
 have d0:=fun y=>(umd.plus y).c0 _ rfl
 have d1:=fun y=>(umd.plus y).cs 0 _ rfl
 have d2:=fun y=>(umd.plus y).cs 1 _ rfl
 have d3:=fun y=>(umd.plus y).cs 2 _ rfl
 have d4:=fun y=>(umd.plus y).cs 3 _ rfl
 have d5:=fun y=>(umd.plus y).cs 4 _ rfl
 have d6:=fun y=>(umd.plus y).cs 5 _ rfl
 have d7:=fun y=>(umd.plus y).cs 6 _ rfl
 have d8:=fun y=>(umd.plus y).cs 7 _ rfl
 clear umd
 have hz3:=Lib.hid hzX
 clear hX ca cb cc fc hzX ka' kd' ko' ma' md'
 go_upto_region 3 with (fail)
 rw [show ((en:Int) == 0)=false from beq_eq_false_iff_ne.2 (by omega)]
 go_cut [5] from 13 to 18 (fun s5 wx=>∃ b:Nat,s5=.pointer (some ⟨b,0,none⟩)∧Got8 X b ⟨tw,tt,tf⟩ wx)
 case first =>
  refine wp_region_held_drew (S:=fun U=>∃ z,U=plus X z) (by kernel_rfl) ⟨⟨Y0.blocks,Y0.draws+1⟩,rfl⟩ (fun hHeld=>?_)
  obtain⟨U0,hU0⟩:∃ U,(plus X Y0).drew=U:=⟨_,rfl⟩
  rw [hU0] at hHeld ⊢
  clear hU0
  refine wpAnyH_take (i:=0) (oi:={ dst:=some 13,op:=Op.load 90 (Operand.tmp 2),type:=90,pos:="expr.go:20",after:=#[],guard:=none }) (v:=?v0) rfl (by kernel_rfl) (by kernel_rfl) (by kernel_rfl) (fun _ _ _ h=>h) (Or.inl ⟨by rfl,?h0⟩) hHeld ?r0
  case h0 =>
   rintro _ ⟨z,rfl⟩
   go_simp
   try with_reducible rfl
  simp only [Act.put,List.setIfInBounds_toArray,List.set_cons_zero,List.set_cons_succ]
  refine wpAnyH_take (i:=1) (oi:={ dst:=some 14,op:=Op.fieldAddr 45 (Operand.tmp 3) 6,type:=0,pos:="expr.go:20",after:=#[],guard:=none }) (v:=?v1) rfl (by kernel_rfl) (by kernel_rfl) (by kernel_rfl) (fun _ _ _ h=>h) (Or.inl ⟨by rfl,?h1⟩) hHeld ?r1
  case h1 =>
   rintro _ ⟨z,rfl⟩
   go_simp
   try with_reducible rfl
  simp only [Act.put,List.setIfInBounds_toArray,List.set_cons_zero,List.set_cons_succ]
  refine wpAnyH_take (i:=2) (oi:={ dst:=some 15,op:=Op.load 43 (Operand.tmp 14),type:=43,pos:="expr.go:20",after:=#[{ on:=1,ground:=Ground.data }],guard:=none }) (v:=?v2) rfl (by kernel_rfl) (by kernel_rfl) (by kernel_rfl) (fun _ _ _ h=>h) (Or.inl ⟨by rfl,?h2⟩) hHeld ?r2
  case h2 =>
   rintro _ ⟨z,rfl⟩
   go_simp
   try with_reducible rfl
  simp only [Act.put,List.setIfInBounds_toArray,List.set_cons_zero,List.set_cons_succ]
  refine wpAnyH_take (i:=3) (oi:={ dst:=some 16,op:=Op.indexAddr 43 (Operand.tmp 15) (Operand.const (Value.int IntKind.i64 0)),type:=0,pos:="expr.go:20",after:=#[{ on:=2,ground:=Ground.data }],guard:=none }) (v:=?v3) rfl (by kernel_rfl) (by kernel_rfl) (by kernel_rfl) (fun _ _ _ h=>h) (Or.inl ⟨by rfl,?h3⟩) hHeld ?r3
  case h3 =>
   rintro _ ⟨z,rfl⟩
   go_simp
   try with_reducible rfl
  simp only [Act.put,List.setIfInBounds_toArray,List.set_cons_zero,List.set_cons_succ]
  refine wpAnyH_take (i:=4) (oi:={ dst:=some 17,op:=Op.load 45 (Operand.tmp 16),type:=45,pos:="expr.go:20",after:=#[{ on:=3,ground:=Ground.data }],guard:=none }) (v:=?v4) rfl (by kernel_rfl) (by kernel_rfl) (by kernel_rfl) (fun _ _ _ h=>h) (Or.inl ⟨by rfl,?h4⟩) hHeld ?r4
  case h4 =>
   rintro _ ⟨z,rfl⟩
   go_simp
   try with_reducible rfl
  simp only [Act.put,List.setIfInBounds_toArray,List.set_cons_zero,List.set_cons_succ]
  refine wpAnyH_ready (rs:=[5,6]) (by kernel_rfl) (by simp) ?_
  refine AllReadyH.cons (o:={ dst:=some 18,op:=Op.call { callee:=Callee.value (Operand.func 28),args:=#[Operand.tmp 13,Operand.tmp 17],argTypes:=#[90,45] },type:=75,pos:="expr.go:20",after:=#[{ on:=0,ground:=Ground.data },{ on:=4,ground:=Ground.data }],guard:=none }) rfl (fun K hK=>?_) ?_
  ·go_simp
   refine (qka.out _ hHeld).mono ?_
   rintro r w' ⟨rfl,x1,rfl⟩
   refine hK.out _ _ (up_plus hHeld x1) (fun hHeld2=>?_)
   clear hK K hHeld
   obtain⟨U1,hU1⟩:∃ U,plus U0 x1=U:=⟨_,rfl⟩
   rw [hU1] at hHeld2 ⊢
   clear hU1
   refine wpAnyH_ready (rs:=[6]) (by kernel_rfl) (by simp) ?_
   refine AllReadyH.cons (o:={ dst:=some 5,op:=Op.alloc 75,type:=0,pos:="expr.go:20",after:=#[],guard:=none }) rfl (fun K hK=>?_) AllReadyH.nil
   go_simp
   refine hK.out _ _ (up_alloc hHeld2 _) (fun hHeld3=>?_)
   clear hK K hHeld3
   have hN:=new8_of hHeld2
   obtain⟨b,hb⟩:∃ b,U1.heap.size=b:=⟨_,rfl⟩
   obtain⟨U2,hU2⟩:∃ U,U1.alloc (.cells #[.int .i64 0,.bool false,.bool false] 75)=U:=⟨_,rfl⟩
   rw [hb,hU2] at hN
   rw [hb,hU2]
   clear hb hU2
   refine wpAnyH_ready (rs:=[7]) (by kernel_rfl) (by simp) ?_
   refine AllReadyH.cons (o:={ dst:=none,op:=Op.store 75 (Operand.tmp 5) (Operand.tmp 18),type:=0,pos:="expr.go:20",after:=#[{ on:=6,ground:=Ground.data },{ on:=5,ground:=Ground.data },{ on:=5,ground:=Ground.chain },{ on:=0,ground:=Ground.phase },{ on:=1,ground:=Ground.phase },{ on:=2,ground:=Ground.phase },{ on:=3,ground:=Ground.phase },{ on:=4,ground:=Ground.phase },{ on:=5,ground:=Ground.phase },{ on:=6,ground:=Ground.phase }],guard:=none }) rfl (fun K hK=>?_) AllReadyH.nil
   have r0:=hN.rb.r0
   have r1:=hN.rb.r1
   have r2:=hN.rb.r2
   have rf:=hN.rb.rf
   go_simp
   refine hK.out _ _ (hN.set ⟨tw,tt,tf⟩).up (fun _=>?_)
   clear hK K r0 r1 r2 rf
   refine wpAnyH_done (by kernel_rfl) ?_ _
   go_wp2_with fail
   go_meet
   exact⟨b,rfl,hN.set ⟨tw,tt,tf⟩⟩
  refine AllReadyH.cons (o:={ dst:=some 5,op:=Op.alloc 75,type:=0,pos:="expr.go:20",after:=#[],guard:=none }) rfl (fun K hK=>?_) AllReadyH.nil
  go_simp
  refine hK.out _ _ (up_alloc hHeld _) (fun hHeld2=>?_)
  clear hK K
  have hN:=new8_of hHeld
  obtain⟨b,hb⟩:∃ b,U0.heap.size=b:=⟨_,rfl⟩
  obtain⟨U2,hU2⟩:∃ U,U0.alloc (.cells #[.int .i64 0,.bool false,.bool false] 75)=U:=⟨_,rfl⟩
  rw [hb,hU2] at hN
  rw [hb,hU2]
  clear hb hU2
  clear hHeld2
  have hHeld2:=hN.rb.up
  refine wpAnyH_ready (rs:=[5]) (by kernel_rfl) (by simp) ?_
  refine AllReadyH.cons (o:={ dst:=some 18,op:=Op.call { callee:=Callee.value (Operand.func 28),args:=#[Operand.tmp 13,Operand.tmp 17],argTypes:=#[90,45] },type:=75,pos:="expr.go:20",after:=#[{ on:=0,ground:=Ground.data },{ on:=4,ground:=Ground.data }],guard:=none }) rfl (fun K hK=>?_) AllReadyH.nil
  go_simp
  refine (qka.out _ hHeld2).mono ?_
  rintro r w' ⟨rfl,x1,rfl⟩
  refine hK.out _ _ (up_plus hHeld2 x1) (fun hHeld3=>?_)
  clear hK K hHeld3
  replace hN:=hN.plus x1
  refine wpAnyH_ready (rs:=[7]) (by kernel_rfl) (by simp) ?_
  refine AllReadyH.cons (o:={ dst:=none,op:=Op.store 75 (Operand.tmp 5) (Operand.tmp 18),type:=0,pos:="expr.go:20",after:=#[{ on:=6,ground:=Ground.data },{ on:=5,ground:=Ground.data },{ on:=5,ground:=Ground.chain },{ on:=0,ground:=Ground.phase },{ on:=1,ground:=Ground.phase },{ on:=2,ground:=Ground.phase },{ on:=3,ground:=Ground.phase },{ on:=4,ground:=Ground.phase },{ on:=5,ground:=Ground.phase },{ on:=6,ground:=Ground.phase }],guard:=none }) rfl (fun K hK=>?_) AllReadyH.nil
  have r0:=hN.rb.r0
  have r1:=hN.rb.r1
  have r2:=hN.rb.r2
  have rf:=hN.rb.rf
  go_simp
  refine hK.out _ _ (hN.set ⟨tw,tt,tf⟩).up (fun _=>?_)
  clear hK K r0 r1 r2 rf
  refine wpAnyH_done (by kernel_rfl) ?_ _
  go_wp2_with fail
  go_meet
  exact⟨b,rfl,hN.set ⟨tw,tt,tf⟩⟩
 case rest =>
  clear a0 a1 a2 a3 a4 a5 a6 a7 a8
  obtain⟨b,rfl,hG⟩:=hcut
  obtain⟨zc,hzc⟩:=hG.up
  have hcu:=Lib.hid (show ∀ y,∃ z,plus wc y=plus X z from fun y=>up_plus hG.up y)
  have hR2:=Lib.hid (show ∀ y,RB V (V.heap.size+1+1) (plus wc y) from fun y=>by rw [hzc,plus_plus];exact hR.out _)
  have t0:=fun y=>(cell_plus wc y b 0 hG.lt).trans hG.t0
  have t1:=fun y=>(cell_plus wc y b 1 hG.lt).trans hG.t1
  have t2:=fun y=>(cell_plus wc y b 2 hG.lt).trans hG.t2
  replace g0:=lift8 hzc g0
  replace g1:=lift8 hzc g1
  replace g2:=lift8 hzc g2
  replace g3:=lift8 hzc g3
  replace g4:=lift8 hzc g4
  replace g5:=lift8 hzc g5
  replace g6:=lift8 hzc g6
  replace g7:=lift8 hzc g7
  replace b0:=lift8 hzc b0
  replace b1:=lift8 hzc b1
  replace b2:=lift8 hzc b2
  replace b3:=lift8 hzc b3
  replace b4:=lift8 hzc b4
  replace b5:=lift8 hzc b5
  replace b6:=lift8 hzc b6
  replace b7:=lift8 hzc b7
  replace b8:=lift8 hzc b8
  replace d0:=lift8 hzc d0
  replace d1:=lift8 hzc d1
  replace d2:=lift8 hzc d2
  replace d3:=lift8 hzc d3
  replace d4:=lift8 hzc d4
  replace d5:=lift8 hzc d5
  replace d6:=lift8 hzc d6
  replace d7:=lift8 hzc d7
  replace d8:=lift8 hzc d8
  have hz4:=Lib.hid (show ∃ z,wc=plus V z by rw [hzc,hz3.out,plus_plus];exact⟨_,rfl⟩)
  clear hG hzc hR hz3
  rw [← plus_self wc]
  obtain⟨Yc,hYc⟩:∃ Y:Ext,(⟨#[],wc.drawn⟩:Ext)=Y:=⟨_,rfl⟩
  rw [hYc]
  clear hYc
  have kq:=Lib.hid (fun y=>(qkd.out _ (hcu.out y)).mono (R':=fun e w'=>e=.returned (.agg #[.int .i64 sw,.bool st,.bool sf])∧∃ x,w'=plus wc x) fun _ _ ⟨h,x,hx⟩=>⟨h,_,hx.trans (plus_plus _ _ _)⟩)
  clear qkd
  have h1i:(1:Int) < (en:Int):=by omega
  go_upto_region 8 with (fail)
  refine wp_region_own_tail 8 (by kernel_rfl) (by kernel_rfl) ?_
  simp only [List.take_succ_cons,List.take_zero,List.drop_succ_cons,List.drop_zero]
  repeat (go_big_quiet_step (first|(with_reducible exact kq.out _)))
  refine wpQuiet_nil ?_
  rintro _ ⟨y1,rfl⟩
  clear kq
  go_wp2_with fail
  refine (qko.out _ (hcu.out y1)).mono ?_
  rintro r w' ⟨rfl,x2,rfl⟩
  clear qko
  go_wp2
  obtain⟨zz,hzz⟩:=hz4.out
  exact⟨rfl,rfl,by rw [hzz,plus_plus,plus_plus];exact⟨_,rfl⟩⟩
set_option maxRecDepth 100000 in
set_option maxHeartbeats 16000000 in
theorem typeOf_two (p0:Option Addr) (n0 c0:Nat) (p1:Option Addr) (n1 c1:Nat) (p2:Option Addr) (n2 c2:Nat) (p3:Option Addr) (n3 c3:Nat) (p4:Option Addr) (n4 c4:Nat) (p5:Option Addr) (n5 c5:Nat) (p6:Option Addr) (n6 c6:Nat) (act:Int) (lw lh ll:Int) (hd nm:ByteArray) (eh el:Int) (pa:Addr) (en ec:Nat) (op tw:Int) (tt tf:Bool)(aop alw alh all:Int) (ahd anm:ByteArray) (aeh ael:Int) (ap:Option Addr) (an ac:Nat)(dop dlw dlh dll:Int) (dhd dnm:ByteArray) (deh del:Int) (dp:Option Addr) (dn dc:Nat)(sw:Int) (st sf:Bool) (rw2:Int) (rt2 rf2:Bool) (w:World)
  (h0:0 < en)
  (h1:1 < en)
  (hn:((en:Int) == 1)=false)
  (ma:CellsAt w pa [.int .u8 aop,.int .i64 alw,.int .u64 alh,.int .u64 all,.string ahd,.string anm,.int .i64 aeh,.int .i64 ael,.slice ap an ac])
  (md:CellsAt w ⟨pa.block,pa.off+9,none⟩ [.int .u8 dop,.int .i64 dlw,.int .u64 dlh,.int .u64 dll,.string dhd,.string dnm,.int .i64 deh,.int .i64 del,.slice dp dn dc])
  (o14:(op == 14)=false)
  (o15:(op == 15)=false)
  (ka:KpE Tryz.prog w 28 #[.agg #[.slice p0 n0 c0,.slice p1 n1 c1,.slice p2 n2 c2,.slice p3 n3 c3,.slice p4 n4 c4,.slice p5 n5 c5,.slice p6 n6 c6,.int .i64 act],.agg #[.int .u8 aop,.int .i64 alw,.int .u64 alh,.int .u64 all,.string ahd,.string anm,.int .i64 aeh,.int .i64 ael,.slice ap an ac]] (.returned (.agg #[.int .i64 tw,.bool tt,.bool tf])))
  (kd:KpE Tryz.prog w 28 #[.agg #[.slice p0 n0 c0,.slice p1 n1 c1,.slice p2 n2 c2,.slice p3 n3 c3,.slice p4 n4 c4,.slice p5 n5 c5,.slice p6 n6 c6,.int .i64 act],.agg #[.int .u8 dop,.int .i64 dlw,.int .u64 dlh,.int .u64 dll,.string dhd,.string dnm,.int .i64 deh,.int .i64 del,.slice dp dn dc]] (.returned (.agg #[.int .i64 sw,.bool st,.bool sf])))
  (ko:KpE Tryz.prog w 51 #[.agg #[.int .u8 op,.int .i64 lw,.int .u64 lh,.int .u64 ll,.string hd,.string nm,.int .i64 eh,.int .i64 el,.slice (some pa) en ec],.agg #[.int .i64 tw,.bool tt,.bool tf],.agg #[.int .i64 sw,.bool st,.bool sf]] (.returned (.agg #[.int .i64 rw2,.bool rt2,.bool rf2]))) :
  KpE Tryz.prog w 28 #[.agg #[.slice p0 n0 c0,.slice p1 n1 c1,.slice p2 n2 c2,.slice p3 n3 c3,.slice p4 n4 c4,.slice p5 n5 c5,.slice p6 n6 c6,.int .i64 act],.agg #[.int .u8 op,.int .i64 lw,.int .u64 lh,.int .u64 ll,.string hd,.string nm,.int .i64 eh,.int .i64 el,.slice (some pa) en ec]] (.returned (.agg #[.int .i64 rw2,.bool rt2,.bool rf2])):=by
 intro y0
 have ka:=ka.up y0
 have kd:=kd.up y0
 have ko:=ko.up y0
 have ma:=ma.plus y0
 have md:=md.plus y0
 obtain⟨V,hV⟩:∃ V,plus w y0=V:=⟨_,rfl⟩
 rw [hV] at ka kd ko ma md ⊢
 clear hV
 have ka':=Lib.hid ka
 have kd':=Lib.hid kd
 have ko':=Lib.hid ko
 have ma':=Lib.hid ma
 have md':=Lib.hid md
 clear ka kd ko ma md
 go_enter Tryz.func28,Tryz.ntmps28
 go_upto_region 1 with (fail)
 obtain⟨X,Y0,hX,⟨zX,hzX⟩,-,ca,cb,cc,fc⟩:=box3f V _ _ _ 90 45 75
 rw [hX]
 have g0:=ca 0 _ rfl
 have g1:=ca 1 _ rfl
 have g2:=ca 2 _ rfl
 have g3:=ca 3 _ rfl
 have g4:=ca 4 _ rfl
 have g5:=ca 5 _ rfl
 have g6:=ca 6 _ rfl
 have g7:=ca 7 _ rfl
 have b0:=cb 0 _ rfl
 have b1:=cb 1 _ rfl
 have b2:=cb 2 _ rfl
 have b3:=cb 3 _ rfl
 have b4:=cb 4 _ rfl
 have b5:=cb 5 _ rfl
 have b6:=cb 6 _ rfl
 have b7:=cb 7 _ rfl
 have b8:=cb 8 _ rfl
 have hR:=Lib.hid (rb_of ⟨zX,hzX⟩ (show V.heap.size≤V.heap.size+1+1 by omega) cc fc)
 have qka:=Lib.hid (atsE_of (kpE_up hzX ka'.out))
 have qkd:=Lib.hid (atsE_of (kpE_up hzX kd'.out))
 have qko:=Lib.hid (atsE_of (kpE_up hzX ko'.out))
 have uma:=cells_up hzX ma'.out
 have a0:=fun y=>(uma.plus y).c0 _ rfl
 have a1:=fun y=>(uma.plus y).cs 0 _ rfl
 have a2:=fun y=>(uma.plus y).cs 1 _ rfl
 have a3:=fun y=>(uma.plus y).cs 2 _ rfl
 have a4:=fun y=>(uma.plus y).cs 3 _ rfl
 have a5:=fun y=>(uma.plus y).cs 4 _ rfl
 have a6:=fun y=>(uma.plus y).cs 5 _ rfl
 have a7:=fun y=>(uma.plus y).cs 6 _ rfl
 have a8:=fun y=>(uma.plus y).cs 7 _ rfl
 clear uma
 have umd:=cells_up hzX md'.out
 have d0:=fun y=>(umd.plus y).c0 _ rfl
 have d1:=fun y=>(umd.plus y).cs 0 _ rfl
 have d2:=fun y=>(umd.plus y).cs 1 _ rfl
 have d3:=fun y=>(umd.plus y).cs 2 _ rfl
 have d4:=fun y=>(umd.plus y).cs 3 _ rfl
 have d5:=fun y=>(umd.plus y).cs 4 _ rfl
 have d6:=fun y=>(umd.plus y).cs 5 _ rfl
 have d7:=fun y=>(umd.plus y).cs 6 _ rfl
 have d8:=fun y=>(umd.plus y).cs 7 _ rfl
 clear umd
 have hz3:=Lib.hid hzX
 clear hX ca cb cc fc hzX ka' kd' ko' ma' md'
 go_upto_region 3 with (fail)
 rw [show ((en:Int) == 0)=false from beq_eq_false_iff_ne.2 (by omega)]
 go_cut [5] from 13 to 18 (fun s5 wx=>∃ b:Nat,s5=.pointer (some ⟨b,0,none⟩)∧Got8 X b ⟨tw,tt,tf⟩ wx)
 case first =>
  refine wp_region_held_drew (S:=fun U=>∃ z,U=plus X z) (by kernel_rfl) ⟨⟨Y0.blocks,Y0.draws+1⟩,rfl⟩ (fun hHeld=>?_)
  obtain⟨U0,hU0⟩:∃ U,(plus X Y0).drew=U:=⟨_,rfl⟩
  rw [hU0] at hHeld ⊢
  clear hU0
  refine wpAnyH_take (i:=0) (oi:={ dst:=some 13,op:=Op.load 90 (Operand.tmp 2),type:=90,pos:="expr.go:20",after:=#[],guard:=none }) (v:=?v0) rfl (by kernel_rfl) (by kernel_rfl) (by kernel_rfl) (fun _ _ _ h=>h) (Or.inl ⟨by rfl,?h0⟩) hHeld ?r0
  case h0 =>
   rintro _ ⟨z,rfl⟩
   go_simp
   try with_reducible rfl
  simp only [Act.put,List.setIfInBounds_toArray,List.set_cons_zero,List.set_cons_succ]
  refine wpAnyH_take (i:=1) (oi:={ dst:=some 14,op:=Op.fieldAddr 45 (Operand.tmp 3) 6,type:=0,pos:="expr.go:20",after:=#[],guard:=none }) (v:=?v1) rfl (by kernel_rfl) (by kernel_rfl) (by kernel_rfl) (fun _ _ _ h=>h) (Or.inl ⟨by rfl,?h1⟩) hHeld ?r1
  case h1 =>
   rintro _ ⟨z,rfl⟩
   go_simp
   try with_reducible rfl
  simp only [Act.put,List.setIfInBounds_toArray,List.set_cons_zero,List.set_cons_succ]
  refine wpAnyH_take (i:=2) (oi:={ dst:=some 15,op:=Op.load 43 (Operand.tmp 14),type:=43,pos:="expr.go:20",after:=#[{ on:=1,ground:=Ground.data }],guard:=none }) (v:=?v2) rfl (by kernel_rfl) (by kernel_rfl) (by kernel_rfl) (fun _ _ _ h=>h) (Or.inl ⟨by rfl,?h2⟩) hHeld ?r2
  case h2 =>
   rintro _ ⟨z,rfl⟩
   go_simp
   try with_reducible rfl
  simp only [Act.put,List.setIfInBounds_toArray,List.set_cons_zero,List.set_cons_succ]
  refine wpAnyH_take (i:=3) (oi:={ dst:=some 16,op:=Op.indexAddr 43 (Operand.tmp 15) (Operand.const (Value.int IntKind.i64 0)),type:=0,pos:="expr.go:20",after:=#[{ on:=2,ground:=Ground.data }],guard:=none }) (v:=?v3) rfl (by kernel_rfl) (by kernel_rfl) (by kernel_rfl) (fun _ _ _ h=>h) (Or.inl ⟨by rfl,?h3⟩) hHeld ?r3
  case h3 =>
   rintro _ ⟨z,rfl⟩
   go_simp
   try with_reducible rfl
  simp only [Act.put,List.setIfInBounds_toArray,List.set_cons_zero,List.set_cons_succ]
  refine wpAnyH_take (i:=4) (oi:={ dst:=some 17,op:=Op.load 45 (Operand.tmp 16),type:=45,pos:="expr.go:20",after:=#[{ on:=3,ground:=Ground.data }],guard:=none }) (v:=?v4) rfl (by kernel_rfl) (by kernel_rfl) (by kernel_rfl) (fun _ _ _ h=>h) (Or.inl ⟨by rfl,?h4⟩) hHeld ?r4
  case h4 =>
   rintro _ ⟨z,rfl⟩
   go_simp
   try with_reducible rfl
  simp only [Act.put,List.setIfInBounds_toArray,List.set_cons_zero,List.set_cons_succ]
  refine wpAnyH_ready (rs:=[5,6]) (by kernel_rfl) (by simp) ?_
  refine AllReadyH.cons (o:={ dst:=some 18,op:=Op.call { callee:=Callee.value (Operand.func 28),args:=#[Operand.tmp 13,Operand.tmp 17],argTypes:=#[90,45] },type:=75,pos:="expr.go:20",after:=#[{ on:=0,ground:=Ground.data },{ on:=4,ground:=Ground.data }],guard:=none }) rfl (fun K hK=>?_) ?_
  ·go_simp
   refine (qka.out _ hHeld).mono ?_
   rintro r w' ⟨rfl,x1,rfl⟩
   refine hK.out _ _ (up_plus hHeld x1) (fun hHeld2=>?_)
   clear hK K hHeld
   obtain⟨U1,hU1⟩:∃ U,plus U0 x1=U:=⟨_,rfl⟩
   rw [hU1] at hHeld2 ⊢
   clear hU1
   refine wpAnyH_ready (rs:=[6]) (by kernel_rfl) (by simp) ?_
   refine AllReadyH.cons (o:={ dst:=some 5,op:=Op.alloc 75,type:=0,pos:="expr.go:20",after:=#[],guard:=none }) rfl (fun K hK=>?_) AllReadyH.nil
   go_simp
   refine hK.out _ _ (up_alloc hHeld2 _) (fun hHeld3=>?_)
   clear hK K hHeld3
   have hN:=new8_of hHeld2
   obtain⟨b,hb⟩:∃ b,U1.heap.size=b:=⟨_,rfl⟩
   obtain⟨U2,hU2⟩:∃ U,U1.alloc (.cells #[.int .i64 0,.bool false,.bool false] 75)=U:=⟨_,rfl⟩
   rw [hb,hU2] at hN
   rw [hb,hU2]
   clear hb hU2
   refine wpAnyH_ready (rs:=[7]) (by kernel_rfl) (by simp) ?_
   refine AllReadyH.cons (o:={ dst:=none,op:=Op.store 75 (Operand.tmp 5) (Operand.tmp 18),type:=0,pos:="expr.go:20",after:=#[{ on:=6,ground:=Ground.data },{ on:=5,ground:=Ground.data },{ on:=5,ground:=Ground.chain },{ on:=0,ground:=Ground.phase },{ on:=1,ground:=Ground.phase },{ on:=2,ground:=Ground.phase },{ on:=3,ground:=Ground.phase },{ on:=4,ground:=Ground.phase },{ on:=5,ground:=Ground.phase },{ on:=6,ground:=Ground.phase }],guard:=none }) rfl (fun K hK=>?_) AllReadyH.nil
   have r0:=hN.rb.r0
   have r1:=hN.rb.r1
   have r2:=hN.rb.r2
   have rf:=hN.rb.rf
   go_simp
   refine hK.out _ _ (hN.set ⟨tw,tt,tf⟩).up (fun _=>?_)
   clear hK K r0 r1 r2 rf
   refine wpAnyH_done (by kernel_rfl) ?_ _
   go_wp2_with fail
   go_meet
   exact⟨b,rfl,hN.set ⟨tw,tt,tf⟩⟩
  refine AllReadyH.cons (o:={ dst:=some 5,op:=Op.alloc 75,type:=0,pos:="expr.go:20",after:=#[],guard:=none }) rfl (fun K hK=>?_) AllReadyH.nil
  go_simp
  refine hK.out _ _ (up_alloc hHeld _) (fun hHeld2=>?_)
  clear hK K
  have hN:=new8_of hHeld
  obtain⟨b,hb⟩:∃ b,U0.heap.size=b:=⟨_,rfl⟩
  obtain⟨U2,hU2⟩:∃ U,U0.alloc (.cells #[.int .i64 0,.bool false,.bool false] 75)=U:=⟨_,rfl⟩
  rw [hb,hU2] at hN
  rw [hb,hU2]
  clear hb hU2
  clear hHeld2
  have hHeld2:=hN.rb.up
  refine wpAnyH_ready (rs:=[5]) (by kernel_rfl) (by simp) ?_
  refine AllReadyH.cons (o:={ dst:=some 18,op:=Op.call { callee:=Callee.value (Operand.func 28),args:=#[Operand.tmp 13,Operand.tmp 17],argTypes:=#[90,45] },type:=75,pos:="expr.go:20",after:=#[{ on:=0,ground:=Ground.data },{ on:=4,ground:=Ground.data }],guard:=none }) rfl (fun K hK=>?_) AllReadyH.nil
  go_simp
  refine (qka.out _ hHeld2).mono ?_
  rintro r w' ⟨rfl,x1,rfl⟩
  refine hK.out _ _ (up_plus hHeld2 x1) (fun hHeld3=>?_)
  clear hK K hHeld3
  replace hN:=hN.plus x1
  refine wpAnyH_ready (rs:=[7]) (by kernel_rfl) (by simp) ?_
  refine AllReadyH.cons (o:={ dst:=none,op:=Op.store 75 (Operand.tmp 5) (Operand.tmp 18),type:=0,pos:="expr.go:20",after:=#[{ on:=6,ground:=Ground.data },{ on:=5,ground:=Ground.data },{ on:=5,ground:=Ground.chain },{ on:=0,ground:=Ground.phase },{ on:=1,ground:=Ground.phase },{ on:=2,ground:=Ground.phase },{ on:=3,ground:=Ground.phase },{ on:=4,ground:=Ground.phase },{ on:=5,ground:=Ground.phase },{ on:=6,ground:=Ground.phase }],guard:=none }) rfl (fun K hK=>?_) AllReadyH.nil
  have r0:=hN.rb.r0
  have r1:=hN.rb.r1
  have r2:=hN.rb.r2
  have rf:=hN.rb.rf
  go_simp
  refine hK.out _ _ (hN.set ⟨tw,tt,tf⟩).up (fun _=>?_)
  clear hK K r0 r1 r2 rf
  refine wpAnyH_done (by kernel_rfl) ?_ _
  go_wp2_with fail
  go_meet
  exact⟨b,rfl,hN.set ⟨tw,tt,tf⟩⟩
 case rest =>
  clear a0 a1 a2 a3 a4 a5 a6 a7 a8
  obtain⟨b,rfl,hG⟩:=hcut
  obtain⟨zc,hzc⟩:=hG.up
  have hcu:=Lib.hid (show ∀ y,∃ z,plus wc y=plus X z from fun y=>up_plus hG.up y)
  have hR2:=Lib.hid (show ∀ y,RB V (V.heap.size+1+1) (plus wc y) from fun y=>by rw [hzc,plus_plus];exact hR.out _)
  have t0:=fun y=>(cell_plus wc y b 0 hG.lt).trans hG.t0
  have t1:=fun y=>(cell_plus wc y b 1 hG.lt).trans hG.t1
  have t2:=fun y=>(cell_plus wc y b 2 hG.lt).trans hG.t2
  replace g0:=lift8 hzc g0
  replace g1:=lift8 hzc g1
  replace g2:=lift8 hzc g2
  replace g3:=lift8 hzc g3
  replace g4:=lift8 hzc g4
  replace g5:=lift8 hzc g5
  replace g6:=lift8 hzc g6
  replace g7:=lift8 hzc g7
  replace b0:=lift8 hzc b0
  replace b1:=lift8 hzc b1
  replace b2:=lift8 hzc b2
  replace b3:=lift8 hzc b3
  replace b4:=lift8 hzc b4
  replace b5:=lift8 hzc b5
  replace b6:=lift8 hzc b6
  replace b7:=lift8 hzc b7
  replace b8:=lift8 hzc b8
  replace d0:=lift8 hzc d0
  replace d1:=lift8 hzc d1
  replace d2:=lift8 hzc d2
  replace d3:=lift8 hzc d3
  replace d4:=lift8 hzc d4
  replace d5:=lift8 hzc d5
  replace d6:=lift8 hzc d6
  replace d7:=lift8 hzc d7
  replace d8:=lift8 hzc d8
  have hz4:=Lib.hid (show ∃ z,wc=plus V z by rw [hzc,hz3.out,plus_plus];exact⟨_,rfl⟩)
  clear hG hzc hR hz3
  rw [← plus_self wc]
  obtain⟨Yc,hYc⟩:∃ Y:Ext,(⟨#[],wc.drawn⟩:Ext)=Y:=⟨_,rfl⟩
  rw [hYc]
  clear hYc
  have kq:=Lib.hid (fun y=>(qkd.out _ (hcu.out y)).mono (R':=fun e w'=>e=.returned (.agg #[.int .i64 sw,.bool st,.bool sf])∧∃ x,w'=plus wc x) fun _ _ ⟨h,x,hx⟩=>⟨h,_,hx.trans (plus_plus _ _ _)⟩)
  clear qkd
  have h1i:(1:Int) < (en:Int):=by omega
  go_upto_region 8 with (fail)
  refine wp_region_own_tail 8 (by kernel_rfl) (by kernel_rfl) ?_
  simp only [List.take_succ_cons,List.take_zero,List.drop_succ_cons,List.drop_zero]
  repeat (go_big_quiet_step (first|(with_reducible exact kq.out _)))
  refine wpQuiet_nil ?_
  rintro _ ⟨y1,rfl⟩
  clear kq
  go_wp2_with fail
  refine (qko.out _ (hcu.out y1)).mono ?_
  rintro r w' ⟨rfl,x2,rfl⟩
  clear qko
  rw [plus_plus]
  obtain⟨Y5,hY5⟩:∃ Y:Ext,(⟨Ext.blocks y1++Ext.blocks x2,Ext.draws x2⟩:Ext)=Y:=⟨_,rfl⟩
  rw [hY5]
  clear hY5
  have hRU:=hR2.out Y5
  have r0:=hRU.r0
  have r1:=hRU.r1
  have r2:=hRU.r2
  have rf:=hRU.rf
  have hRU':=Lib.hid hRU
  clear hRU hR2
  go_wp2
  obtain⟨Z,hZ,g0,g1,g2,hV⟩:=hRU'.out.set ⟨rw2,rt2,rf2⟩
  simp only at hZ
  rw [hZ]
  clear hZ
  exact bodyPost_ret (v:=.agg #[.int .i64 rw2,.bool rt2,.bool rf2]) (by simp [results,Tryz.results28,go_sem,g0,g1,g2]) rfl ⟨rfl,hV⟩
end Go.Proofs.YtobhijbncchpiaaGreat

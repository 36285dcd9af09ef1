/-
  WHAT IS PROVED HERE: a part of the proof (made narrower and merged by program; the parts: Dz Ea).
-/
import Derived.Test.YtobhijbncchpiaaGreatM38
namespace Go.Proofs.YtobhijbncchpiaaGreat
open Go.RowKit
theorem kpE_here {V W:World} {f:FuncId} {args:Array Value} {E:Ending} (h:KpE Tryz.prog V f args E) (hW:∃ z,W=plus V z):Calls Tryz.prog f args W fun e w'=>e=E∧∃ x,w'=plus W x:=by
 obtain⟨z,rfl⟩:=hW
 exact h z
set_option maxRecDepth 100000 in
set_option maxHeartbeats 16000000 in
theorem item_stmt (cb:Nat) (p0:Option Addr) (n0 c0:Nat) (p1:Option Addr) (n1 c1:Nat) (p2:Option Addr) (n2 c2:Nat) (p3:Option Addr) (n3 c3:Nat) (p4:Option Addr) (n4 c4:Nat) (p5:Option Addr) (n5 c5:Nat) (p6:Option Addr) (n6 c6:Nat) (sk:Int) (shd snm:ByteArray) (op lw lh ll:Int) (hd nm:ByteArray) (eh el:Int) (ep:Option Addr) (en ec:Nat) (tp:Option Addr) (tn tc:Nat) (up:Option Addr) (un uc:Nat) (act:Int) (R:Int) (w:World)
  (C0:w.cell? ⟨cb,0,none⟩=some (.slice p0 n0 c0))
  (C1:w.cell? ⟨cb,1,none⟩=some (.slice p1 n1 c1))
  (C2:w.cell? ⟨cb,2,none⟩=some (.slice p2 n2 c2))
  (C3:w.cell? ⟨cb,3,none⟩=some (.slice p3 n3 c3))
  (C4:w.cell? ⟨cb,4,none⟩=some (.slice p4 n4 c4))
  (C5:w.cell? ⟨cb,5,none⟩=some (.slice p5 n5 c5))
  (C6:w.cell? ⟨cb,6,none⟩=some (.slice p6 n6 c6))
  (kc:KpE Tryz.prog w 36 #[.agg #[.slice p0 n0 c0,.slice p1 n1 c1,.slice p2 n2 c2,.slice p3 n3 c3,.slice p4 n4 c4,.slice p5 n5 c5,.slice p6 n6 c6,.int .i64 act],.agg #[.int .u8 sk,.string shd,.string snm,.int .u8 op,.int .i64 lw,.int .u64 lh,.int .u64 ll,.string hd,.string nm,.int .i64 eh,.int .i64 el,.slice ep en ec,.slice tp tn tc,.slice up un uc]] (endE R (.tuple #[]))) :
  KpE Tryz.prog w 21 #[.pointer (some ⟨cb,0,none⟩),.agg #[.int .u8 10,.int .i64 act,.int .i64 0,.int .u8 sk,.string shd,.string snm,.int .u8 op,.int .i64 lw,.int .u64 lh,.int .u64 ll,.string hd,.string nm,.int .i64 eh,.int .i64 el,.slice ep en ec,.slice tp tn tc,.slice up un uc]] (endE R (.tuple #[])):=by
 intro y0
 have kc:=kc.up y0
 replace C0:=cell_keep C0 y0
 replace C1:=cell_keep C1 y0
 replace C2:=cell_keep C2 y0
 replace C3:=cell_keep C3 y0
 replace C4:=cell_keep C4 y0
 replace C5:=cell_keep C5 y0
 replace C6:=cell_keep C6 y0
 obtain⟨V,hV⟩:∃ V,plus w y0=V:=⟨_,rfl⟩
 rw [hV] at kc C0 C1 C2 C3 C4 C5 C6 ⊢
 clear hV
 have kc':=Lib.hid kc
 clear kc
 go_enter Tryz.func21,Tryz.ntmps21
 go_upto_region 7 with (fail)
 obtain⟨X,Y0,hX,⟨zX,hzX⟩,ca⟩:=box1n V _ 49
 rw [hX]
 have g0:=ca 0 _ rfl
 have g1:=ca 1 _ rfl
 have g2:=ca 2 _ rfl
 have g3:=ca 3 _ rfl
 have g4:=ca 4 _ rfl
 have g5:=ca 5 _ rfl
 have g6:=ca 6 _ rfl
 have g7:=ca 7 _ rfl
 have g8:=ca 8 _ rfl
 have g9:=ca 9 _ rfl
 have g10:=ca 10 _ rfl
 have g11:=ca 11 _ rfl
 have g12:=ca 12 _ rfl
 have g13:=ca 13 _ rfl
 have g14:=ca 14 _ rfl
 have g15:=ca 15 _ rfl
 have g16:=ca 16 _ rfl
 replace C0:∀ y,(plus X y).cell? ⟨cb,0,none⟩=some (.slice p0 n0 c0):=fun y=>by rw [hzX,plus_plus];exact cell_keep C0 _
 replace C1:∀ y,(plus X y).cell? ⟨cb,1,none⟩=some (.slice p1 n1 c1):=fun y=>by rw [hzX,plus_plus];exact cell_keep C1 _
 replace C2:∀ y,(plus X y).cell? ⟨cb,2,none⟩=some (.slice p2 n2 c2):=fun y=>by rw [hzX,plus_plus];exact cell_keep C2 _
 replace C3:∀ y,(plus X y).cell? ⟨cb,3,none⟩=some (.slice p3 n3 c3):=fun y=>by rw [hzX,plus_plus];exact cell_keep C3 _
 replace C4:∀ y,(plus X y).cell? ⟨cb,4,none⟩=some (.slice p4 n4 c4):=fun y=>by rw [hzX,plus_plus];exact cell_keep C4 _
 replace C5:∀ y,(plus X y).cell? ⟨cb,5,none⟩=some (.slice p5 n5 c5):=fun y=>by rw [hzX,plus_plus];exact cell_keep C5 _
 replace C6:∀ y,(plus X y).cell? ⟨cb,6,none⟩=some (.slice p6 n6 c6):=fun y=>by rw [hzX,plus_plus];exact cell_keep C6 _
 have hz:=Lib.hid hzX
 clear hX ca hzX
 refine wp_region_own_tail 9 (by kernel_rfl) (by kernel_rfl) ?_
 simp only [List.take_succ_cons,List.take_zero,List.drop_succ_cons,List.drop_zero]
 repeat (go_big_quiet_step (fail))
 refine wpQuiet_nil ?_
 rintro _ ⟨y1,rfl⟩
 by_cases r0:R=0
 ·subst r0
  go_wp2_with fail
  refine (kpE_here kc'.out ⟨_,by rw [hz.out,plus_plus]⟩).mono ?_
  rintro r w' ⟨rfl,x2,rfl⟩
  rw [show endE 0 (.tuple #[])=.returned (.tuple #[]) from rfl]
  go_wp2
  go_end0
  exact⟨rfl,by rw [hz.out,plus_plus,plus_plus];exact⟨_,rfl⟩⟩
 ·go_wp2_with fail
  refine (kpE_here kc'.out ⟨_,by rw [hz.out,plus_plus]⟩).mono ?_
  rintro r w' ⟨rfl,x2,rfl⟩
  rw [show endE R (.tuple #[])=gaveE R by rw [endE,if_neg r0]]
  go_wp2
  exact⟨rfl,(endE_n r0).symm,by rw [hz.out,plus_plus,plus_plus];exact⟨_,rfl⟩⟩
set_option maxRecDepth 100000 in
set_option maxHeartbeats 16000000 in
theorem item_case (cb:Nat) (pa:Addr) (n2 c2:Nat) (sk:Int) (shd snm:ByteArray) (op lw lh ll:Int) (hd nm:ByteArray) (eh el:Int) (ep:Option Addr) (en ec:Nat) (tp:Option Addr) (tn tc:Nat) (up:Option Addr) (un uc:Nat) (a b:Nat) (pc:Addr) (cn cc:Nat) (d:Bool) (sp:Option Addr) (sn sc:Nat) (cto:ByteArray) (R:Int) (w:World)
  (ha:a < n2)
  (hb:b < cn)
  (C2:w.cell? ⟨cb,2,none⟩=some (.slice (some pa) n2 c2))
  (S4:w.cell? ⟨(pa.add (a*5)).block,(pa.add (a*5)).off+4,none⟩=some (.slice (some pc) cn cc))
  (k0:w.cell? (pc.add (b*3))=some (.bool d))
  (k1:w.cell? ⟨(pc.add (b*3)).block,(pc.add (b*3)).off+1,none⟩=some (.slice sp sn sc))
  (k2:w.cell? ⟨(pc.add (b*3)).block,(pc.add (b*3)).off+2,none⟩=some (.string cto))
  (kc:KpE Tryz.prog w 35 #[.pointer (some ⟨cb,0,none⟩),.agg #[.bool d,.slice sp sn sc,.string cto]] (endE R (.tuple #[]))) :
  KpE Tryz.prog w 21 #[.pointer (some ⟨cb,0,none⟩),.agg #[.int .u8 7,.int .i64 (a:Int),.int .i64 (b:Int),.int .u8 sk,.string shd,.string snm,.int .u8 op,.int .i64 lw,.int .u64 lh,.int .u64 ll,.string hd,.string nm,.int .i64 eh,.int .i64 el,.slice ep en ec,.slice tp tn tc,.slice up un uc]] (endE R (.tuple #[])):=by
 intro y0
 have kc:=kc.up y0
 replace C2:=cell_keep C2 y0
 replace S4:=cell_keep S4 y0
 replace k0:=cell_keep k0 y0
 replace k1:=cell_keep k1 y0
 replace k2:=cell_keep k2 y0
 obtain⟨V,hV⟩:∃ V,plus w y0=V:=⟨_,rfl⟩
 rw [hV] at kc C2 S4 k0 k1 k2 ⊢
 clear hV
 have kc':=Lib.hid kc
 clear kc
 go_enter Tryz.func21,Tryz.ntmps21
 go_upto_region 5 with (fail)
 obtain⟨X,Y0,hX,⟨zX,hzX⟩,ca⟩:=box1n V _ 49
 rw [hX]
 have g0:=ca 0 _ rfl
 have g1:=ca 1 _ rfl
 have g2:=ca 2 _ rfl
 have g3:=ca 3 _ rfl
 have g4:=ca 4 _ rfl
 have g5:=ca 5 _ rfl
 have g6:=ca 6 _ rfl
 have g7:=ca 7 _ rfl
 have g8:=ca 8 _ rfl
 have g9:=ca 9 _ rfl
 have g10:=ca 10 _ rfl
 have g11:=ca 11 _ rfl
 have g12:=ca 12 _ rfl
 have g13:=ca 13 _ rfl
 have g14:=ca 14 _ rfl
 have g15:=ca 15 _ rfl
 have g16:=ca 16 _ rfl
 replace C2:∀ y,(plus X y).cell? ⟨cb,2,none⟩=some (.slice (some pa) n2 c2):=fun y=>by rw [hzX,plus_plus];exact cell_keep C2 _
 replace S4:∀ y,(plus X y).cell? ⟨(pa.add (a*5)).block,(pa.add (a*5)).off+4,none⟩=some (.slice (some pc) cn cc):=fun y=>by rw [hzX,plus_plus];exact cell_keep S4 _
 replace k0:∀ y,(plus X y).cell? (pc.add (b*3))=some (.bool d):=fun y=>by rw [hzX,plus_plus];exact cell_keep k0 _
 replace k1:∀ y,(plus X y).cell? ⟨(pc.add (b*3)).block,(pc.add (b*3)).off+1,none⟩=some (.slice sp sn sc):=fun y=>by rw [hzX,plus_plus];exact cell_keep k1 _
 replace k2:∀ y,(plus X y).cell? ⟨(pc.add (b*3)).block,(pc.add (b*3)).off+2,none⟩=some (.string cto):=fun y=>by rw [hzX,plus_plus];exact cell_keep k2 _
 have hz:=Lib.hid hzX
 clear hX ca hzX
 have hna:¬ ((a:Int) < 0):=by omega
 have hla:(a:Int) < (n2:Int):=by omega
 have hnb:¬ ((b:Int) < 0):=by omega
 have hlb:(b:Int) < (cn:Int):=by omega
 refine wp_region_own_tail 15 (by kernel_rfl) (by kernel_rfl) ?_
 simp only [List.take_succ_cons,List.take_zero,List.drop_succ_cons,List.drop_zero]
 repeat (go_big_quiet_step (fail))
 refine wpQuiet_nil ?_
 rintro _ ⟨y1,rfl⟩
 by_cases r0:R=0
 ·subst r0
  go_wp2_with fail
  refine (kpE_here kc'.out ⟨_,by rw [hz.out,plus_plus]⟩).mono ?_
  rintro r w' ⟨rfl,x2,rfl⟩
  rw [show endE 0 (.tuple #[])=.returned (.tuple #[]) from rfl]
  go_wp2
  go_end0
  exact⟨rfl,by rw [hz.out,plus_plus,plus_plus];exact⟨_,rfl⟩⟩
 ·go_wp2_with fail
  refine (kpE_here kc'.out ⟨_,by rw [hz.out,plus_plus]⟩).mono ?_
  rintro r w' ⟨rfl,x2,rfl⟩
  rw [show endE R (.tuple #[])=gaveE R by rw [endE,if_neg r0]]
  go_wp2
  exact⟨rfl,(endE_n r0).symm,by rw [hz.out,plus_plus,plus_plus];exact⟨_,rfl⟩⟩
set_option maxRecDepth 100000 in
set_option maxHeartbeats 16000000 in
theorem item_key (cb:Nat) (pa:Addr) (n4 c4:Nat) (sk:Int) (shd snm:ByteArray) (op lw lh ll:Int) (hd nm:ByteArray) (eh el:Int) (ep:Option Addr) (en ec:Nat) (tp:Option Addr) (tn tc:Nat) (up:Option Addr) (un uc:Nat) (a b:Nat) (kp:Option Addr) (kn kcap:Nat) (R:Int) (w:World)
  (ha:a < n4)
  (C4:w.cell? ⟨cb,4,none⟩=some (.slice (some pa) n4 c4))
  (T1:w.cell? ⟨(pa.add (a*5)).block,(pa.add (a*5)).off+1,none⟩=some (.slice kp kn kcap))
  (kc:KpE Tryz.prog w 37 #[.pointer (some ⟨cb,0,none⟩),.slice kp kn kcap,.int .i64 (b:Int)] (endE R (.tuple #[]))) :
  KpE Tryz.prog w 21 #[.pointer (some ⟨cb,0,none⟩),.agg #[.int .u8 12,.int .i64 (a:Int),.int .i64 (b:Int),.int .u8 sk,.string shd,.string snm,.int .u8 op,.int .i64 lw,.int .u64 lh,.int .u64 ll,.string hd,.string nm,.int .i64 eh,.int .i64 el,.slice ep en ec,.slice tp tn tc,.slice up un uc]] (endE R (.tuple #[])):=by
 intro y0
 have kc:=kc.up y0
 replace C4:=cell_keep C4 y0
 replace T1:=cell_keep T1 y0
 obtain⟨V,hV⟩:∃ V,plus w y0=V:=⟨_,rfl⟩
 rw [hV] at kc C4 T1 ⊢
 clear hV
 have kc':=Lib.hid kc
 clear kc
 go_enter Tryz.func21,Tryz.ntmps21
 go_upto_region 9 with (fail)
 obtain⟨X,Y0,hX,⟨zX,hzX⟩,ca⟩:=box1n V _ 49
 rw [hX]
 have g0:=ca 0 _ rfl
 have g1:=ca 1 _ rfl
 have g2:=ca 2 _ rfl
 have g3:=ca 3 _ rfl
 have g4:=ca 4 _ rfl
 have g5:=ca 5 _ rfl
 have g6:=ca 6 _ rfl
 have g7:=ca 7 _ rfl
 have g8:=ca 8 _ rfl
 have g9:=ca 9 _ rfl
 have g10:=ca 10 _ rfl
 have g11:=ca 11 _ rfl
 have g12:=ca 12 _ rfl
 have g13:=ca 13 _ rfl
 have g14:=ca 14 _ rfl
 have g15:=ca 15 _ rfl
 have g16:=ca 16 _ rfl
 replace C4:∀ y,(plus X y).cell? ⟨cb,4,none⟩=some (.slice (some pa) n4 c4):=fun y=>by rw [hzX,plus_plus];exact cell_keep C4 _
 replace T1:∀ y,(plus X y).cell? ⟨(pa.add (a*5)).block,(pa.add (a*5)).off+1,none⟩=some (.slice kp kn kcap):=fun y=>by rw [hzX,plus_plus];exact cell_keep T1 _
 have hz:=Lib.hid hzX
 clear hX ca hzX
 have hna:¬ ((a:Int) < 0):=by omega
 have hla:(a:Int) < (n4:Int):=by omega
 refine wp_region_own_tail 13 (by kernel_rfl) (by kernel_rfl) ?_
 simp only [List.take_succ_cons,List.take_zero,List.drop_succ_cons,List.drop_zero]
 repeat (go_big_quiet_step (fail))
 refine wpQuiet_nil ?_
 rintro _ ⟨y1,rfl⟩
 by_cases r0:R=0
 ·subst r0
  go_wp2_with fail
  refine (kpE_here kc'.out ⟨_,by rw [hz.out,plus_plus]⟩).mono ?_
  rintro r w' ⟨rfl,x2,rfl⟩
  rw [show endE 0 (.tuple #[])=.returned (.tuple #[]) from rfl]
  go_wp2
  go_end0
  exact⟨rfl,by rw [hz.out,plus_plus,plus_plus];exact⟨_,rfl⟩⟩
 ·go_wp2_with fail
  refine (kpE_here kc'.out ⟨_,by rw [hz.out,plus_plus]⟩).mono ?_
  rintro r w' ⟨rfl,x2,rfl⟩
  rw [show endE R (.tuple #[])=gaveE R by rw [endE,if_neg r0]]
  go_wp2
  exact⟨rfl,(endE_n r0).symm,by rw [hz.out,plus_plus,plus_plus];exact⟨_,rfl⟩⟩
set_option maxRecDepth 100000 in
set_option maxHeartbeats 16000000 in
theorem item_dflt (cb:Nat) (pa:Addr) (n4 c4:Nat) (sk:Int) (shd snm:ByteArray) (op lw lh ll:Int) (hd nm:ByteArray) (eh el:Int) (ep:Option Addr) (en ec:Nat) (tp:Option Addr) (tn tc:Nat) (up:Option Addr) (un uc:Nat) (a:Nat) (dn:ByteArray) (gp:Option Addr) (gn gc:Nat) (R:Int) (w:World)
  (ha:a < n4)
  (C4:w.cell? ⟨cb,4,none⟩=some (.slice (some pa) n4 c4))
  (T3:w.cell? ⟨(pa.add (a*5)).block,(pa.add (a*5)).off+3,none⟩=some (.string dn))
  (T4:w.cell? ⟨(pa.add (a*5)).block,(pa.add (a*5)).off+4,none⟩=some (.slice gp gn gc))
  (kc:KpE Tryz.prog w 38 #[.pointer (some ⟨cb,0,none⟩),.agg #[.string dn,.slice gp gn gc]] (endE R (.tuple #[]))) :
  KpE Tryz.prog w 21 #[.pointer (some ⟨cb,0,none⟩),.agg #[.int .u8 14,.int .i64 (a:Int),.int .i64 0,.int .u8 sk,.string shd,.string snm,.int .u8 op,.int .i64 lw,.int .u64 lh,.int .u64 ll,.string hd,.string nm,.int .i64 eh,.int .i64 el,.slice ep en ec,.slice tp tn tc,.slice up un uc]] (endE R (.tuple #[])):=by
 intro y0
 have kc:=kc.up y0
 replace C4:=cell_keep C4 y0
 replace T3:=cell_keep T3 y0
 replace T4:=cell_keep T4 y0
 obtain⟨V,hV⟩:∃ V,plus w y0=V:=⟨_,rfl⟩
 rw [hV] at kc C4 T3 T4 ⊢
 clear hV
 have kc':=Lib.hid kc
 clear kc
 go_enter Tryz.func21,Tryz.ntmps21
 go_upto_region 11 with (fail)
 obtain⟨X,Y0,hX,⟨zX,hzX⟩,ca⟩:=box1n V _ 49
 rw [hX]
 have g0:=ca 0 _ rfl
 have g1:=ca 1 _ rfl
 have g2:=ca 2 _ rfl
 have g3:=ca 3 _ rfl
 have g4:=ca 4 _ rfl
 have g5:=ca 5 _ rfl
 have g6:=ca 6 _ rfl
 have g7:=ca 7 _ rfl
 have g8:=ca 8 _ rfl
 have g9:=ca 9 _ rfl
 have g10:=ca 10 _ rfl
 have g11:=ca 11 _ rfl
 have g12:=ca 12 _ rfl
 have g13:=ca 13 _ rfl
 have g14:=ca 14 _ rfl
 have g15:=ca 15 _ rfl
 have g16:=ca 16 _ rfl
 replace C4:∀ y,(plus X y).cell? ⟨cb,4,none⟩=some (.slice (some pa) n4 c4):=fun y=>by rw [hzX,plus_plus];exact cell_keep C4 _
 replace T3:∀ y,(plus X y).cell? ⟨(pa.add (a*5)).block,(pa.add (a*5)).off+3,none⟩=some (.string dn):=fun y=>by rw [hzX,plus_plus];exact cell_keep T3 _
 replace T4:∀ y,(plus X y).cell? ⟨(pa.add (a*5)).block,(pa.add (a*5)).off+4,none⟩=some (.slice gp gn gc):=fun y=>by rw [hzX,plus_plus];exact cell_keep T4 _
 have hz:=Lib.hid hzX
 clear hX ca hzX
 have hna:¬ ((a:Int) < 0):=by omega
 have hla:(a:Int) < (n4:Int):=by omega
 refine wp_region_own_tail 11 (by kernel_rfl) (by kernel_rfl) ?_
 simp only [List.take_succ_cons,List.take_zero,List.drop_succ_cons,List.drop_zero]
 repeat (go_big_quiet_step (fail))
 refine wpQuiet_nil ?_
 rintro _ ⟨y1,rfl⟩
 by_cases r0:R=0
 ·subst r0
  go_wp2_with fail
  refine (kpE_here kc'.out ⟨_,by rw [hz.out,plus_plus]⟩).mono ?_
  rintro r w' ⟨rfl,x2,rfl⟩
  rw [show endE 0 (.tuple #[])=.returned (.tuple #[]) from rfl]
  go_wp2
  go_end0
  exact⟨rfl,by rw [hz.out,plus_plus,plus_plus];exact⟨_,rfl⟩⟩
 ·go_wp2_with fail
  refine (kpE_here kc'.out ⟨_,by rw [hz.out,plus_plus]⟩).mono ?_
  rintro r w' ⟨rfl,x2,rfl⟩
  rw [show endE R (.tuple #[])=gaveE R by rw [endE,if_neg r0]]
  go_wp2
  exact⟨rfl,(endE_n r0).symm,by rw [hz.out,plus_plus,plus_plus];exact⟨_,rfl⟩⟩
set_option maxRecDepth 100000 in
set_option maxHeartbeats 16000000 in
theorem item_other (cb:Nat) (k a b:Int) (sk:Int) (shd snm:ByteArray) (op lw lh ll:Int) (hd nm:ByteArray) (eh el:Int) (ep:Option Addr) (en ec:Nat) (tp:Option Addr) (tn tc:Nat) (up:Option Addr) (un uc:Nat) (w:World) (h6:(k == 6)=false) (h7:(k == 7)=false) (h10:(k == 10)=false) (h12:(k == 12)=false) (h14:(k == 14)=false) :
  KpE Tryz.prog w 21 #[.pointer (some ⟨cb,0,none⟩),.agg #[.int .u8 k,.int .i64 a,.int .i64 b,.int .u8 sk,.string shd,.string snm,.int .u8 op,.int .i64 lw,.int .u64 lh,.int .u64 ll,.string hd,.string nm,.int .i64 eh,.int .i64 el,.slice ep en ec,.slice tp tn tc,.slice up un uc]] (.returned (.tuple #[])):=by
 intro y0
 obtain⟨V,hV⟩:∃ V,plus w y0=V:=⟨_,rfl⟩
 rw [hV]
 clear hV
 go_enter Tryz.func21,Tryz.ntmps21
 go_upto_region 1 with (fail)
 obtain⟨X,Y0,hX,⟨zX,hzX⟩,ca⟩:=box1n V _ 49
 rw [hX]
 have g0:=ca 0 _ rfl
 have hz:=Lib.hid hzX
 clear hX ca hzX
 go_wp2
 go_end0
 exact⟨rfl,by rw [hz.out,plus_plus];exact⟨_,rfl⟩⟩
set_option maxRecDepth 100000 in
set_option maxHeartbeats 16000000 in
theorem item_next (cb:Nat) (pa:Addr) (n2 c2:Nat) (sk:Int) (shd snm:ByteArray) (op lw lh ll:Int) (hd nm:ByteArray) (eh el:Int) (ep:Option Addr) (en ec:Nat) (tp:Option Addr) (tn tc:Nat) (up:Option Addr) (un uc:Nat) (a:Nat) (sn:ByteArray) (tkp:Option Addr) (tkn tkc:Nat) (sto:ByteArray) (kyp:Option Addr) (kyn kyc:Nat) (csp:Option Addr) (csn csc:Nat) (V:World) (F:World→Prop) (r:Int) (G:World→Prop)
  (ha:a < n2) (C2:V.cell? ⟨cb,2,none⟩=some (.slice (some pa) n2 c2))
  (S0:V.cell? (pa.add (a*5))=some (.string sn)) (S1:V.cell? ⟨(pa.add (a*5)).block,(pa.add (a*5)).off+1,none⟩=some (.slice tkp tkn tkc)) (S2:V.cell? ⟨(pa.add (a*5)).block,(pa.add (a*5)).off+2,none⟩=some (.string sto)) (S3:V.cell? ⟨(pa.add (a*5)).block,(pa.add (a*5)).off+3,none⟩=some (.slice kyp kyn kyc)) (S4:V.cell? ⟨(pa.add (a*5)).block,(pa.add (a*5)).off+4,none⟩=some (.slice csp csn csc))
  (kc:∀ W,(∃ z,W=plus V z)→Calls Tryz.prog 34 #[.pointer (some ⟨cb,0,none⟩),.agg #[.string sn,.slice tkp tkn tkc,.string sto,.slice kyp kyn kyc,.slice csp csn csc]] W fun e w'=>(e=.returned (.tuple #[])∧F w')∨(e=gaveE r∧G w')) :
  Calls Tryz.prog 21 #[.pointer (some ⟨cb,0,none⟩),.agg #[.int .u8 6,.int .i64 (a:Int),.int .i64 0,.int .u8 sk,.string shd,.string snm,.int .u8 op,.int .i64 lw,.int .u64 lh,.int .u64 ll,.string hd,.string nm,.int .i64 eh,.int .i64 el,.slice ep en ec,.slice tp tn tc,.slice up un uc]] V fun e w'=>(e=.returned (.tuple #[])∧F w')∨(e=gaveE r∧G w'):=by
 have kc':=Lib.hid kc
 clear kc
 go_enter Tryz.func21,Tryz.ntmps21
 go_upto_region 3 with (fail)
 obtain⟨X,Y0,hX,⟨zX,hzX⟩,ca⟩:=box1n V _ 49
 rw [hX]
 have g1:=ca 1 _ rfl
 replace C2:∀ y,(plus X y).cell? ⟨cb,2,none⟩=some (.slice (some pa) n2 c2):=fun y=>by rw [hzX,plus_plus];exact cell_keep C2 _
 replace S0:∀ y,(plus X y).cell? (pa.add (a*5))=some (.string sn):=fun y=>by rw [hzX,plus_plus];exact cell_keep S0 _
 replace S1:∀ y,(plus X y).cell? ⟨(pa.add (a*5)).block,(pa.add (a*5)).off+1,none⟩=some (.slice tkp tkn tkc):=fun y=>by rw [hzX,plus_plus];exact cell_keep S1 _
 replace S2:∀ y,(plus X y).cell? ⟨(pa.add (a*5)).block,(pa.add (a*5)).off+2,none⟩=some (.string sto):=fun y=>by rw [hzX,plus_plus];exact cell_keep S2 _
 replace S3:∀ y,(plus X y).cell? ⟨(pa.add (a*5)).block,(pa.add (a*5)).off+3,none⟩=some (.slice kyp kyn kyc):=fun y=>by rw [hzX,plus_plus];exact cell_keep S3 _
 replace S4:∀ y,(plus X y).cell? ⟨(pa.add (a*5)).block,(pa.add (a*5)).off+4,none⟩=some (.slice csp csn csc):=fun y=>by rw [hzX,plus_plus];exact cell_keep S4 _
 have hz:=Lib.hid hzX
 clear hX ca hzX
 have hna:¬ ((a:Int) < 0):=by omega
 have hla:(a:Int) < (n2:Int):=by omega
 refine wp_region_own_tail 10 (by kernel_rfl) (by kernel_rfl) ?_
 simp only [List.take_succ_cons,List.take_zero,List.drop_succ_cons,List.drop_zero]
 repeat (go_big_quiet_step (fail))
 refine wpQuiet_nil ?_
 rintro _ ⟨y1,rfl⟩
 go_wp2_with fail
 refine (kc'.out _ ⟨_,by rw [hz.out,plus_plus]⟩).mono ?_
 rintro e w' (⟨rfl,hF⟩ | ⟨rfl,hG⟩)
 ·have hF':=Lib.hid hF
  clear hF
  go_wp2
  go_end0
  exact .inl ⟨rfl,hF'.out⟩
 ·have hG':=Lib.hid hG
  clear hG
  go_wp2
  exact⟨rfl,.inr ⟨rfl,hG'.out⟩⟩
set_option maxRecDepth 100000 in
set_option maxHeartbeats 16000000 in
theorem t_goes (p:Pr) (hz:p.sz≤1048576) (hW:Wide p) (a:Int) (e:Ex) (k:Int) (hm:e.may 16=true) (w:World) (hin:p.In w) (he:e.In w) (hb:e.wt≤1048576) :
  KpE Tryz.prog w 100 #[scV p a,e.val,.int .i64 k] (endE (if (e.ty p a).1=0 then goesE (e.ty p a).2 e.free k else (e.ty p a).1) (.tuple #[])):=by
 have kt:=t_type p hz hW a e 16 w hm hin he hb
 have hf:=Ex.ty_fine p a e
 have kg:=fun h=>t_goesAs (e.ty p a).2 e k w he h
 obtain⟨⟨R,t⟩,hR⟩:∃ r,e.ty p a=r:=⟨_,rfl⟩
 rw [hR] at kt hf kg ⊢
 simp only at kt hf kg ⊢
 obtain⟨⟨p0,k0,l0⟩,⟨p1,k1,l1⟩,⟨p2,k2,l2⟩,⟨p3,k3,l3⟩,⟨p4,k4,l4⟩,⟨p5,k5,l5⟩,⟨p6,k6,l6⟩⟩:=p
 obtain⟨op,⟨lw,lh,ll⟩,hd,nm,eh,el,ep,ec,eargs⟩:=e
 by_cases r0:R=0
 ·subst r0
  rw [if_pos rfl]
  exact goes_yes _ _ _ _ _ _ _ _ _ _ _ _ _ _ _ _ _ _ _ _ _ _ _ _ _ _ _ _ _ _ _ _ _ k t.w t.tr t.fr _ w kt (kg (hf rfl).2)
 ·rw [if_neg r0,endE_n r0]
  rw [endE_n r0] at kt
  exact goes_no _ _ _ _ _ _ _ _ _ _ _ _ _ _ _ _ _ _ _ _ _ _ _ _ _ _ _ _ _ _ _ _ _ k R w kt
set_option maxRecDepth 100000 in
set_option maxHeartbeats 16000000 in
theorem t_stmt (p:Pr) (hz:p.sz≤1048576) (hW:Wide p) (a:Int) (s:St) (hm:s.kind=1∨s.kind=2∨s.kind=5→s.e.may 16=true) (ht:s.kind=1→targetI p s.head s.name≠-1) (w:World) (hin:p.In w) (he:s.e.In w) (hb:s.e.wt≤1048576) :
  KpE Tryz.prog w 36 #[scV p a,.agg s.cells.toArray] (endE (stE p a s) (.tuple #[])):=by
 unfold stE
 by_cases k1:s.kind=1
 ·rw [if_pos k1]
  have kg:=t_goes p hz hW a s.e (targetW p s) (hm (.inl k1)) w hin he hb
  have q:=ht k1
  unfold targetI at q
  have kt:Kp Tryz.prog w 101 #[scV p a,.agg s.cells.toArray] (.int .i64 (targetW p s)):=by
   unfold targetW
   by_cases h0:s.head.toList=[]
   ·rw [if_pos h0]
    rw [if_pos (by simpa using h0)] at q
    have k:=t_metaWidth p w hin hz a s.name q
    obtain⟨kd,shd,snm,⟨op,⟨lw,lh,ll⟩,hd,nm,eh,el,ep,ec,eargs⟩,tp,tc,thn,up,uc,els⟩:=s
    exact target_meta _ _ _ _ _ _ _ _ _ _ _ _ _ _ _ _ _ _ _ _ _ _ _ _ _ _ _ _ _ _ _ _ _ kd shd snm _ _ _ _ _ _ _ w (by simp only [St.head] at h0;simp [h0]) k
   ·rw [if_neg h0]
    rw [if_neg (by simpa using h0)] at q
    have k:=t_fieldWidth p w hin hz a s.head s.name q
    obtain⟨kd,shd,snm,⟨op,⟨lw,lh,ll⟩,hd,nm,eh,el,ep,ec,eargs⟩,tp,tc,thn,up,uc,els⟩:=s
    exact target_field _ _ _ _ _ _ _ _ _ _ _ _ _ _ _ _ _ _ _ _ _ _ _ _ _ _ _ _ _ _ _ _ _ kd shd snm _ _ _ _ _ _ _ w (by simp only [St.head] at h0;simpa using h0) k
  obtain⟨K,hK⟩:∃ K,targetW p s=K:=⟨_,rfl⟩
  rw [hK] at kt kg ⊢
  clear hK q hm ht
  obtain⟨kd,shd,snm,⟨op,⟨lw,lh,ll⟩,hd,nm,eh,el,ep,ec,eargs⟩,tp,tc,thn,up,uc,els⟩:=s
  obtain rfl:kd=1:=k1
  exact stmt_set _ _ _ _ _ _ _ _ _ _ _ _ _ _ _ _ _ _ _ _ _ _ _ _ _ _ _ _ _ _ _ _ _ 1 shd snm _ _ _ _ _ _ K _ w kt kg
 rw [if_neg k1]
 by_cases k2:s.kind=2
 ·rw [if_pos k2]
  have kt:=t_type p hz hW a s.e 16 w (hm (.inr (.inl k2))) hin he hb
  obtain⟨⟨R,t⟩,hR⟩:∃ r,s.e.ty p a=r:=⟨_,rfl⟩
  rw [hR] at kt ⊢
  simp only at kt ⊢
  clear hR hm ht
  obtain⟨kd,shd,snm,⟨op,⟨lw,lh,ll⟩,hd,nm,eh,el,ep,ec,eargs⟩,tp,tc,thn,up,uc,els⟩:=s
  obtain rfl:kd=2:=k2
  by_cases r0:R=0
  ·subst r0
   rw [if_pos rfl]
   exact stmt_if _ _ _ _ _ _ _ _ _ _ _ _ _ _ _ _ _ _ _ _ _ _ _ _ _ _ _ _ _ _ _ _ _ 2 shd snm _ _ _ _ _ _ t.w t.tr t.fr w kt
  ·rw [if_neg r0,endE_n r0]
   rw [endE_n r0] at kt
   exact stmt_if_no _ _ _ _ _ _ _ _ _ _ _ _ _ _ _ _ _ _ _ _ _ _ _ _ _ _ _ _ _ _ _ _ _ 2 shd snm _ _ _ _ _ _ R w kt
 rw [if_neg k2]
 by_cases k5:s.kind=5
 ·rw [if_pos k5]
  have kt:=t_type p hz hW a s.e 16 w (hm (.inr (.inr k5))) hin he hb
  have hf:=Ex.ty_fine p a s.e
  have kg:=fun h=>t_goesAs (s.e.ty p a).2 s.e 9 w he h
  obtain⟨⟨R,t⟩,hR⟩:∃ r,s.e.ty p a=r:=⟨_,rfl⟩
  rw [hR] at kt hf kg ⊢
  simp only at kt hf kg ⊢
  clear hR hm ht
  obtain⟨kd,shd,snm,⟨op,⟨lw,lh,ll⟩,hd,nm,eh,el,ep,ec,eargs⟩,tp,tc,thn,up,uc,els⟩:=s
  obtain rfl:kd=5:=k5
  refine stmt_forward _ _ _ _ _ _ _ _ _ _ _ _ _ _ _ _ _ _ _ _ _ _ _ _ _ _ _ _ _ _ _ _ _ 5 shd snm _ _ _ _ _ _ _ w ?_
  by_cases r0:R=0
  ·subst r0
   rw [if_pos rfl]
   obtain⟨tw,tt,tf⟩:=t
   cases tt with
   | true =>
    simp only [if_true]
    rw [show endE 9 (.tuple #[])=gaveE 9 from rfl]
    exact forward_truth _ _ _ _ _ _ _ _ _ _ _ _ _ _ _ _ _ _ _ _ _ _ _ _ _ _ _ _ _ _ _ _ _ tw tf w kt
   | false =>
    simp only [Bool.false_eq_true,if_false]
    cases tf with
    | true =>
     simp only [if_true]
     exact forward_free _ _ _ _ _ _ _ _ _ _ _ _ _ _ _ _ _ _ _ _ _ _ _ _ _ _ _ _ _ _ _ _ _ tw _ w kt (kg (hf rfl).2)
    | false =>
     simp only [Bool.false_eq_true,if_false]
     exact forward_bits _ _ _ _ _ _ _ _ _ _ _ _ _ _ _ _ _ _ _ _ _ _ _ _ _ _ _ _ _ _ _ _ _ tw w kt
  ·rw [if_neg r0,endE_n r0]
   rw [endE_n r0] at kt
   exact forward_no _ _ _ _ _ _ _ _ _ _ _ _ _ _ _ _ _ _ _ _ _ _ _ _ _ _ _ _ _ _ _ _ _ R w kt
 rw [if_neg k5]
 clear hm ht
 obtain⟨kd,shd,snm,⟨op,⟨lw,lh,ll⟩,hd,nm,eh,el,ep,ec,eargs⟩,tp,tc,thn,up,uc,els⟩:=s
 exact stmt_none _ _ _ _ _ _ _ _ _ _ _ _ _ _ _ _ _ _ _ _ _ _ _ _ _ _ _ _ _ _ _ _ _ kd shd snm _ _ _ _ _ _ w (beq_eq_false_iff_ne.2 k1) (beq_eq_false_iff_ne.2 k2) (beq_eq_false_iff_ne.2 k5)
theorem like_st {p:Pr} {a:Int} {s t:St} (h1:s.kind=t.kind) (h2:s.head=t.head) (h3:s.name=t.name) (h4:s.e.bare=t.e.bare):stE p a s=stE p a t:=by
 unfold stE targetW
 rw [h1,h2,h3,like_ty h4 p a,like_free h4 p]
end Go.Proofs.YtobhijbncchpiaaGreat

/-
  WHAT IS PROVED HERE: a part of the proof (made narrower and merged by program; the parts: Hj Hk).
-/
import Derived.Test.YtobhijbncchpiaaGreatM13
namespace Go.Proofs.YtobhijbncchpiaaGreat
open Go.RowKit
set_option maxRecDepth 100000 in
set_option maxHeartbeats 8000000 in
theorem mayset_of (m1 m2 m3:Nat) (a0:Int) (a1:Int) (a2:Int) (a3:Int) (a4:Int) (a5:Int) (a6:Int) (fv fm:Bool) (is:Bool) (s0:Bool) (w:World) (hL:∀ W z,W=plus w z→(Instr.lookup 114 (.map (some m2)) (.int .u8 a0) true).run Tryz.prog W=.ok (.tuple #[.agg #[.bool fv,.bool fm],.bool is]) W)
  (h0:Kp Tryz.prog w 224 #[.agg #[.bool fv,.bool fm],.agg #[.int .u8 a0,.int .i64 a1,.int .u64 a2,.int .u64 a3,.int .i64 a4,.int .u64 a5,.int .u64 a6]] (.bool s0)) :
  Kp Tryz.prog w 215 #[.agg #[.map (some m1),.map (some m2),.map (some m3)],.agg #[.int .u8 a0,.int .i64 a1,.int .u64 a2,.int .u64 a3,.int .i64 a4,.int .u64 a5,.int .u64 a6]] (.bool (is && s0)):=by
 intro y0
 have h0:=h0.up y0
 have hL:∀ W z,W=plus (plus w y0) z→(Instr.lookup 114 (.map (some m2)) (.int .u8 a0) true).run Tryz.prog W=.ok (.tuple #[.agg #[.bool fv,.bool fm],.bool is]) W:=fun W z hW=>hL W _ (hW.trans (plus_plus _ _ _))
 obtain⟨V,hV⟩:∃ V,plus w y0=V:=⟨_,rfl⟩
 rw [hV] at h0 hL ⊢
 clear hV
 have hL2:∀ a b,(Instr.lookup 114 (.map (some m2)) (.int .u8 a0) true).run Tryz.prog ((V.alloc a).alloc b)=.ok (.tuple #[.agg #[.bool fv,.bool fm],.bool is]) ((V.alloc a).alloc b):=fun a b=>by
  obtain⟨x,hx⟩:=alloc2_plus V a b
  exact hL _ x hx
 clear hL
 obtain⟨R,hR⟩:∃ R,(is && s0)=R:=⟨_,rfl⟩
 rw [hR]
 cases is
 case false =>
  have hF:=Lib.hid hR
  clear hR h0
  go_enter Tryz.func215,Tryz.ntmps215
  go_wp2_with fail
  go_ret
  exact⟨rb hF.out,alloc3_plus _ _ _ _⟩
 case true =>
  cases s0
  case false =>
   have hF:=Lib.hid hR
   clear hR
   have h0:=Lib.hid h0
   go_enter Tryz.func215,Tryz.ntmps215
   go_wp2_with fail
   obtain⟨W,yy,hW,⟨z,hz⟩,ca,cb,cc⟩:=box3n V _ _ _ 117 162 219
   rw [hW]
   have ca0:=ca 0 _ rfl
   have ca1:=ca 1 _ rfl
   have ca2:=ca 2 _ rfl
   have cb0:=cb 0 _ rfl
   have cb1:=cb 1 _ rfl
   have cb2:=cb 2 _ rfl
   have cb3:=cb 3 _ rfl
   have cb4:=cb 4 _ rfl
   have cb5:=cb 5 _ rfl
   have cb6:=cb 6 _ rfl
   have cc0:=cc 0 _ rfl
   have cc1:=cc 1 _ rfl
   have q0:=Lib.hid (kp_at hz h0.out)
   have hz':=Lib.hid hz
   clear hW hz ca cb cc h0
   refine (q0.out _).mono ?_
   rintro r w' ⟨rfl,x1,rfl⟩
   go_wp2_with fail
   go_ret
   exact⟨rb hF.out,pp hz'.out⟩
  case true =>
   have hF:=Lib.hid hR
   clear hR
   have h0:=Lib.hid h0
   go_enter Tryz.func215,Tryz.ntmps215
   go_wp2_with fail
   obtain⟨W,yy,hW,⟨z,hz⟩,ca,cb,cc⟩:=box3n V _ _ _ 117 162 219
   rw [hW]
   have ca0:=ca 0 _ rfl
   have ca1:=ca 1 _ rfl
   have ca2:=ca 2 _ rfl
   have cb0:=cb 0 _ rfl
   have cb1:=cb 1 _ rfl
   have cb2:=cb 2 _ rfl
   have cb3:=cb 3 _ rfl
   have cb4:=cb 4 _ rfl
   have cb5:=cb 5 _ rfl
   have cb6:=cb 6 _ rfl
   have cc0:=cc 0 _ rfl
   have cc1:=cc 1 _ rfl
   have q0:=Lib.hid (kp_at hz h0.out)
   have hz':=Lib.hid hz
   clear hW hz ca cb cc h0
   refine (q0.out _).mono ?_
   rintro r w' ⟨rfl,x1,rfl⟩
   go_wp2_with fail
   go_ret
   exact⟨rb hF.out,pp hz'.out⟩
set_option maxRecDepth 100000 in
set_option maxHeartbeats 8000000 in
theorem maystmt_of (m1 m2 m3:Nat) (a0:Int) (a1:ByteArray) (a2:ByteArray) (a3:Int) (a4:Int) (a5:Int) (a6:Int) (a7:ByteArray) (a8:ByteArray) (a9:Int) (a10:Int) (a11p:Option Addr) (a11n:Nat) (a11c:Nat) (a12p:Option Addr) (a12n:Nat) (a12c:Nat) (a13p:Option Addr) (a13n:Nat) (a13c:Nat) (fh fn:Int) (fe fk:Bool) (is:Bool) (s0:Bool) (s1:Bool) (s2:Bool) (w:World) (hL:∀ W z,W=plus w z→(Instr.lookup 115 (.map (some m3)) (.int .u8 a0) true).run Tryz.prog W=.ok (.tuple #[.agg #[.int .u8 fh,.int .u8 fn,.bool fe,.bool fk],.bool is]) W)
  (h0:Kp Tryz.prog w 195 #[.agg #[.int .u8 fh,.int .u8 fn,.bool fe,.bool fk],.agg #[.int .u8 a0,.string a1,.string a2,.int .u8 a3,.int .i64 a4,.int .u64 a5,.int .u64 a6,.string a7,.string a8,.int .i64 a9,.int .i64 a10,.slice a11p a11n a11c,.slice a12p a12n a12c,.slice a13p a13n a13c]] (.bool s0))
  (h1:Kp Tryz.prog w 196 #[.agg #[.int .u8 a3,.int .i64 a4,.int .u64 a5,.int .u64 a6,.string a7,.string a8,.int .i64 a9,.int .i64 a10,.slice a11p a11n a11c],.agg #[.int .u8 0,.int .i64 0,.int .u64 0,.int .u64 0,.string ⟨#[]⟩,.string ⟨#[]⟩,.int .i64 0,.int .i64 0,.slice none 0 0]] (.bool s1))
  (h2:Kp Tryz.prog w 124 #[.agg #[.map (some m1),.map (some m2),.map (some m3)],.agg #[.int .u8 a3,.int .i64 a4,.int .u64 a5,.int .u64 a6,.string a7,.string a8,.int .i64 a9,.int .i64 a10,.slice a11p a11n a11c]] (.bool s2)) :
  Kp Tryz.prog w 140 #[.agg #[.map (some m1),.map (some m2),.map (some m3)],.agg #[.int .u8 a0,.string a1,.string a2,.int .u8 a3,.int .i64 a4,.int .u64 a5,.int .u64 a6,.string a7,.string a8,.int .i64 a9,.int .i64 a10,.slice a11p a11n a11c,.slice a12p a12n a12c,.slice a13p a13n a13c]] (.bool (is && (s0 && (if fe then s2 else s1)))):=by
 intro y0
 have h0:=h0.up y0
 have h1:=h1.up y0
 have h2:=h2.up y0
 have hL:∀ W z,W=plus (plus w y0) z→(Instr.lookup 115 (.map (some m3)) (.int .u8 a0) true).run Tryz.prog W=.ok (.tuple #[.agg #[.int .u8 fh,.int .u8 fn,.bool fe,.bool fk],.bool is]) W:=fun W z hW=>hL W _ (hW.trans (plus_plus _ _ _))
 obtain⟨V,hV⟩:∃ V,plus w y0=V:=⟨_,rfl⟩
 rw [hV] at h0 h1 h2 hL ⊢
 clear hV
 have hL2:∀ a b,(Instr.lookup 115 (.map (some m3)) (.int .u8 a0) true).run Tryz.prog ((V.alloc a).alloc b)=.ok (.tuple #[.agg #[.int .u8 fh,.int .u8 fn,.bool fe,.bool fk],.bool is]) ((V.alloc a).alloc b):=fun a b=>by
  obtain⟨x,hx⟩:=alloc2_plus V a b
  exact hL _ x hx
 clear hL
 obtain⟨R,hR⟩:∃ R,(is && (s0 && (if fe then s2 else s1)))=R:=⟨_,rfl⟩
 rw [hR]
 cases is
 case false =>
  have hF:=Lib.hid hR
  clear hR h0 h1 h2
  go_enter Tryz.func140,Tryz.ntmps140
  go_wp2_with fail
  go_ret
  exact⟨rb hF.out,alloc3_plus _ _ _ _⟩
 case true =>
  cases s0
  case false =>
   have hF:=Lib.hid hR
   clear hR h1 h2
   have h0:=Lib.hid h0
   go_enter Tryz.func140,Tryz.ntmps140
   go_wp2_with fail
   obtain⟨W,yy,hW,⟨z,hz⟩,ca,cb,cc⟩:=box3n V _ _ _ 117 47 221
   rw [hW]
   have ca0:=ca 0 _ rfl
   have ca1:=ca 1 _ rfl
   have ca2:=ca 2 _ rfl
   have cb0:=cb 0 _ rfl
   have cb1:=cb 1 _ rfl
   have cb2:=cb 2 _ rfl
   have cb3:=cb 3 _ rfl
   have cb4:=cb 4 _ rfl
   have cb5:=cb 5 _ rfl
   have cb6:=cb 6 _ rfl
   have cb7:=cb 7 _ rfl
   have cb8:=cb 8 _ rfl
   have cb9:=cb 9 _ rfl
   have cb10:=cb 10 _ rfl
   have cb11:=cb 11 _ rfl
   have cb12:=cb 12 _ rfl
   have cb13:=cb 13 _ rfl
   have cc0:=cc 0 _ rfl
   have cc1:=cc 1 _ rfl
   have cc2:=cc 2 _ rfl
   have cc3:=cc 3 _ rfl
   have q0:=Lib.hid (kp_at hz h0.out)
   have hz':=Lib.hid hz
   clear hW hz ca cb cc h0
   refine (q0.out _).mono ?_
   rintro r w' ⟨rfl,x1,rfl⟩
   go_wp2_with fail
   go_ret
   exact⟨rb hF.out,pp hz'.out⟩
  case true =>
   cases fe
   case false =>
    cases s1
    case false =>
     have hF:=Lib.hid hR
     clear hR h2
     have h0:=Lib.hid h0
     have h1:=Lib.hid h1
     go_enter Tryz.func140,Tryz.ntmps140
     go_wp2_with fail
     obtain⟨W,yy,hW,⟨z,hz⟩,ca,cb,cc⟩:=box3n V _ _ _ 117 47 221
     rw [hW]
     have ca0:=ca 0 _ rfl
     have ca1:=ca 1 _ rfl
     have ca2:=ca 2 _ rfl
     have cb0:=cb 0 _ rfl
     have cb1:=cb 1 _ rfl
     have cb2:=cb 2 _ rfl
     have cb3:=cb 3 _ rfl
     have cb4:=cb 4 _ rfl
     have cb5:=cb 5 _ rfl
     have cb6:=cb 6 _ rfl
     have cb7:=cb 7 _ rfl
     have cb8:=cb 8 _ rfl
     have cb9:=cb 9 _ rfl
     have cb10:=cb 10 _ rfl
     have cb11:=cb 11 _ rfl
     have cb12:=cb 12 _ rfl
     have cb13:=cb 13 _ rfl
     have cc0:=cc 0 _ rfl
     have cc1:=cc 1 _ rfl
     have cc2:=cc 2 _ rfl
     have cc3:=cc 3 _ rfl
     have q0:=Lib.hid (kp_at hz h0.out)
     have q1:=Lib.hid (kp_at hz h1.out)
     have hz':=Lib.hid hz
     clear hW hz ca cb cc h0 h1
     refine (q0.out _).mono ?_
     rintro r w' ⟨rfl,x1,rfl⟩
     go_wp2_with (first|(go_at_call 196;with_reducible refine (q1.out _).mono ?_;rintro r w' ⟨rfl,x,rfl⟩))
     go_ret
     exact⟨rb hF.out,pp hz'.out⟩
    case true =>
     have hF:=Lib.hid hR
     clear hR h2
     have h0:=Lib.hid h0
     have h1:=Lib.hid h1
     go_enter Tryz.func140,Tryz.ntmps140
     go_wp2_with fail
     obtain⟨W,yy,hW,⟨z,hz⟩,ca,cb,cc⟩:=box3n V _ _ _ 117 47 221
     rw [hW]
     have ca0:=ca 0 _ rfl
     have ca1:=ca 1 _ rfl
     have ca2:=ca 2 _ rfl
     have cb0:=cb 0 _ rfl
     have cb1:=cb 1 _ rfl
     have cb2:=cb 2 _ rfl
     have cb3:=cb 3 _ rfl
     have cb4:=cb 4 _ rfl
     have cb5:=cb 5 _ rfl
     have cb6:=cb 6 _ rfl
     have cb7:=cb 7 _ rfl
     have cb8:=cb 8 _ rfl
     have cb9:=cb 9 _ rfl
     have cb10:=cb 10 _ rfl
     have cb11:=cb 11 _ rfl
     have cb12:=cb 12 _ rfl
     have cb13:=cb 13 _ rfl
     have cc0:=cc 0 _ rfl
     have cc1:=cc 1 _ rfl
     have cc2:=cc 2 _ rfl
     have cc3:=cc 3 _ rfl
     have q0:=Lib.hid (kp_at hz h0.out)
     have q1:=Lib.hid (kp_at hz h1.out)
     have hz':=Lib.hid hz
     clear hW hz ca cb cc h0 h1
     refine (q0.out _).mono ?_
     rintro r w' ⟨rfl,x1,rfl⟩
     go_wp2_with (first|(go_at_call 196;with_reducible refine (q1.out _).mono ?_;rintro r w' ⟨rfl,x,rfl⟩))
     go_ret
     exact⟨rb hF.out,pp hz'.out⟩
   case true =>
    cases s2
    case false =>
     have hF:=Lib.hid hR
     clear hR h1
     have h0:=Lib.hid h0
     have h2:=Lib.hid h2
     go_enter Tryz.func140,Tryz.ntmps140
     go_wp2_with fail
     obtain⟨W,yy,hW,⟨z,hz⟩,ca,cb,cc⟩:=box3n V _ _ _ 117 47 221
     rw [hW]
     have ca0:=ca 0 _ rfl
     have ca1:=ca 1 _ rfl
     have ca2:=ca 2 _ rfl
     have cb0:=cb 0 _ rfl
     have cb1:=cb 1 _ rfl
     have cb2:=cb 2 _ rfl
     have cb3:=cb 3 _ rfl
     have cb4:=cb 4 _ rfl
     have cb5:=cb 5 _ rfl
     have cb6:=cb 6 _ rfl
     have cb7:=cb 7 _ rfl
     have cb8:=cb 8 _ rfl
     have cb9:=cb 9 _ rfl
     have cb10:=cb 10 _ rfl
     have cb11:=cb 11 _ rfl
     have cb12:=cb 12 _ rfl
     have cb13:=cb 13 _ rfl
     have cc0:=cc 0 _ rfl
     have cc1:=cc 1 _ rfl
     have cc2:=cc 2 _ rfl
     have cc3:=cc 3 _ rfl
     have q0:=Lib.hid (kp_at hz h0.out)
     have q2:=Lib.hid (kp_at hz h2.out)
     have hz':=Lib.hid hz
     clear hW hz ca cb cc h0 h2
     refine (q0.out _).mono ?_
     rintro r w' ⟨rfl,x1,rfl⟩
     go_wp2_with (first|(go_at_call 124;with_reducible refine (q2.out _).mono ?_;rintro r w' ⟨rfl,x,rfl⟩))
     go_ret
     exact⟨rb hF.out,pp hz'.out⟩
    case true =>
     have hF:=Lib.hid hR
     clear hR h1
     have h0:=Lib.hid h0
     have h2:=Lib.hid h2
     go_enter Tryz.func140,Tryz.ntmps140
     go_wp2_with fail
     obtain⟨W,yy,hW,⟨z,hz⟩,ca,cb,cc⟩:=box3n V _ _ _ 117 47 221
     rw [hW]
     have ca0:=ca 0 _ rfl
     have ca1:=ca 1 _ rfl
     have ca2:=ca 2 _ rfl
     have cb0:=cb 0 _ rfl
     have cb1:=cb 1 _ rfl
     have cb2:=cb 2 _ rfl
     have cb3:=cb 3 _ rfl
     have cb4:=cb 4 _ rfl
     have cb5:=cb 5 _ rfl
     have cb6:=cb 6 _ rfl
     have cb7:=cb 7 _ rfl
     have cb8:=cb 8 _ rfl
     have cb9:=cb 9 _ rfl
     have cb10:=cb 10 _ rfl
     have cb11:=cb 11 _ rfl
     have cb12:=cb 12 _ rfl
     have cb13:=cb 13 _ rfl
     have cc0:=cc 0 _ rfl
     have cc1:=cc 1 _ rfl
     have cc2:=cc 2 _ rfl
     have cc3:=cc 3 _ rfl
     have q0:=Lib.hid (kp_at hz h0.out)
     have q2:=Lib.hid (kp_at hz h2.out)
     have hz':=Lib.hid hz
     clear hW hz ca cb cc h0 h2
     refine (q0.out _).mono ?_
     rintro r w' ⟨rfl,x1,rfl⟩
     go_wp2_with (first|(go_at_call 124;with_reducible refine (q2.out _).mono ?_;rintro r w' ⟨rfl,x,rfl⟩))
     go_ret
     exact⟨rb hF.out,pp hz'.out⟩
set_option maxRecDepth 100000 in
set_option maxHeartbeats 8000000 in
theorem trans1_of (m1 m2 m3:Nat) (a0:Bool) (a1p:Option Addr) (a1n:Nat) (a1c:Nat) (a2:ByteArray) (fb sb:Nat) (kp:Option Addr) (kn kc:Nat) (s0:Bool) (w:World) (hf0:w.cell? ⟨fb,0,none⟩=some (.map (some m1))) (hf1:w.cell? ⟨fb,1,none⟩=some (.map (some m2))) (hf2:w.cell? ⟨fb,2,none⟩=some (.map (some m3))) (hs:w.cell? ⟨sb,3,none⟩=some (.slice kp kn kc))
  (h0:Kp Tryz.prog w 193 #[.agg #[.map (some m1),.map (some m2),.map (some m3)],.agg #[.bool a0,.slice a1p a1n a1c,.string a2],.int .i64 (kn:Int)] (.bool s0)) :
  Kp Tryz.prog w 192 #[.agg #[.bool a0,.slice a1p a1n a1c,.string a2],.pointer (some ⟨fb,0,none⟩),.pointer (some ⟨sb,0,none⟩)] (.bool (s0)):=by
 intro y0
 have h0:=h0.up y0
 have hf0:=cell_keep hf0 y0
 have hf1:=cell_keep hf1 y0
 have hf2:=cell_keep hf2 y0
 have hs:=cell_keep hs y0
 obtain⟨V,hV⟩:∃ V,plus w y0=V:=⟨_,rfl⟩
 rw [hV] at h0 hf0 hf1 hf2 hs ⊢
 clear hV
 have hf0x:=fun a=>cell_alloc hf0 a
 have hf1x:=fun a=>cell_alloc hf1 a
 have hf2x:=fun a=>cell_alloc hf2 a
 have hsx:=fun a=>cell_alloc hs a
 obtain⟨R,hR⟩:∃ R,(s0)=R:=⟨_,rfl⟩
 rw [hR]
 have hF:=Lib.hid (show (s0)=R by first | exact hR|(rw [← hR];simp))
 clear hR
 have h0:=Lib.hid h0
 go_enter Tryz.func192,Tryz.ntmps192
 go_wp2_with fail
 obtain⟨W,yy,hW,⟨z,hz⟩,cb0⟩:=box1n V _ 70
 rw [hW]
 have c0_0:=cb0 0 _ rfl
 have c0_1:=cb0 1 _ rfl
 have c0_2:=cb0 2 _ rfl
 have q0c:=Lib.hid (kp_at hz h0.out)
 have hz':=Lib.hid hz
 clear hW hz cb0
 refine (q0c.out _).mono ?_
 rintro r w' ⟨rfl,x1,rfl⟩
 go_wp2_with fail
 go_ret
 exact⟨rb hF.out,pp hz'.out⟩
set_option maxRecDepth 100000 in
set_option maxHeartbeats 8000000 in
theorem trans_to (m1 m2 m3:Nat) (a0:ByteArray) (a1p:Option Addr) (a1n:Nat) (a1c:Nat) (a2:ByteArray) (a3p:Option Addr) (a3n:Nat) (a3c:Nat) (a4p:Option Addr) (a4n:Nat) (a4c:Nat) (s0:Bool) (w:World) (ht:(a2.toList == [])=false)
  (h0:Kp Tryz.prog w 190 #[.string a2] (.bool s0)) :
  Kp Tryz.prog w 132 #[.agg #[.map (some m1),.map (some m2),.map (some m3)],.agg #[.string a0,.slice a1p a1n a1c,.string a2,.slice a3p a3n a3c,.slice a4p a4n a4c]] (.bool (s0 && (((a3n:Int) == 0) && ((a4n:Int) == 0)))):=by
 intro y0
 have h0:=h0.up y0
 obtain⟨V,hV⟩:∃ V,plus w y0=V:=⟨_,rfl⟩
 rw [hV] at h0 ⊢
 clear hV
 have ht2:¬ a2.toList=[]:=by simpa using ht
 obtain⟨R,hR⟩:∃ R,(s0 && (((a3n:Int) == 0) && ((a4n:Int) == 0)))=R:=⟨_,rfl⟩
 rw [hR]
 cases s0
 case false =>
  have hF:=Lib.hid (show (false)=R by first | exact hR|(rw [← hR];simp))
  clear hR
  have h0:=Lib.hid h0
  go_enter Tryz.func132,Tryz.ntmps132
  go_wp2_with fail
  obtain⟨W,yy,hW,⟨z,hz⟩,cb0,cb1⟩:=box2n V _ _ 117 61
  rw [hW]
  have c0_0:=cb0 0 _ rfl
  have c0_1:=cb0 1 _ rfl
  have c0_2:=cb0 2 _ rfl
  have c1_0:=cb1 0 _ rfl
  have c1_1:=cb1 1 _ rfl
  have c1_2:=cb1 2 _ rfl
  have c1_3:=cb1 3 _ rfl
  have c1_4:=cb1 4 _ rfl
  have q0c:=Lib.hid (kp_at hz h0.out)
  have hz':=Lib.hid hz
  clear hW hz cb0 cb1
  refine (q0c.out _).mono ?_
  rintro r w' ⟨rfl,x1,rfl⟩
  go_wp2_with fail
  go_ret
  exact⟨rb hF.out,pp hz'.out⟩
 case true =>
  by_cases q1:((a3n:Int) == 0)=true
  case neg =>
   have q1:((a3n:Int) == 0)=false:=by simpa using q1
   have hF:=Lib.hid (show (false)=R by first | exact hR|(rw [← hR];simp [q1]))
   clear hR
   have h0:=Lib.hid h0
   go_enter Tryz.func132,Tryz.ntmps132
   go_wp2_with fail
   obtain⟨W,yy,hW,⟨z,hz⟩,cb0,cb1⟩:=box2n V _ _ 117 61
   rw [hW]
   have c0_0:=cb0 0 _ rfl
   have c0_1:=cb0 1 _ rfl
   have c0_2:=cb0 2 _ rfl
   have c1_0:=cb1 0 _ rfl
   have c1_1:=cb1 1 _ rfl
   have c1_2:=cb1 2 _ rfl
   have c1_3:=cb1 3 _ rfl
   have c1_4:=cb1 4 _ rfl
   have q0c:=Lib.hid (kp_at hz h0.out)
   have hz':=Lib.hid hz
   clear hW hz cb0 cb1
   refine (q0c.out _).mono ?_
   rintro r w' ⟨rfl,x1,rfl⟩
   go_wp2_with fail
   go_ret
   exact⟨rb hF.out,pp hz'.out⟩
  case pos =>
   by_cases q2:((a4n:Int) == 0)=true
   case neg =>
    have q2:((a4n:Int) == 0)=false:=by simpa using q2
    have hF:=Lib.hid (show (false)=R by first | exact hR|(rw [← hR];simp [q1,q2]))
    clear hR
    have h0:=Lib.hid h0
    go_enter Tryz.func132,Tryz.ntmps132
    go_wp2_with fail
    obtain⟨W,yy,hW,⟨z,hz⟩,cb0,cb1⟩:=box2n V _ _ 117 61
    rw [hW]
    have c0_0:=cb0 0 _ rfl
    have c0_1:=cb0 1 _ rfl
    have c0_2:=cb0 2 _ rfl
    have c1_0:=cb1 0 _ rfl
    have c1_1:=cb1 1 _ rfl
    have c1_2:=cb1 2 _ rfl
    have c1_3:=cb1 3 _ rfl
    have c1_4:=cb1 4 _ rfl
    have q0c:=Lib.hid (kp_at hz h0.out)
    have hz':=Lib.hid hz
    clear hW hz cb0 cb1
    refine (q0c.out _).mono ?_
    rintro r w' ⟨rfl,x1,rfl⟩
    go_wp2_with fail
    go_ret
    exact⟨rb hF.out,pp hz'.out⟩
   case pos =>
    have hF:=Lib.hid (show (true)=R by first | exact hR|(rw [← hR];simp [q1,q2]))
    clear hR
    have h0:=Lib.hid h0
    go_enter Tryz.func132,Tryz.ntmps132
    go_wp2_with fail
    obtain⟨W,yy,hW,⟨z,hz⟩,cb0,cb1⟩:=box2n V _ _ 117 61
    rw [hW]
    have c0_0:=cb0 0 _ rfl
    have c0_1:=cb0 1 _ rfl
    have c0_2:=cb0 2 _ rfl
    have c1_0:=cb1 0 _ rfl
    have c1_1:=cb1 1 _ rfl
    have c1_2:=cb1 2 _ rfl
    have c1_3:=cb1 3 _ rfl
    have c1_4:=cb1 4 _ rfl
    have q0c:=Lib.hid (kp_at hz h0.out)
    have hz':=Lib.hid hz
    clear hW hz cb0 cb1
    refine (q0c.out _).mono ?_
    rintro r w' ⟨rfl,x1,rfl⟩
    go_wp2_with fail
    go_ret
    exact⟨rb hF.out,pp hz'.out⟩
set_option maxRecDepth 100000 in
set_option maxHeartbeats 8000000 in
theorem trans_keys (m1 m2 m3:Nat) (a0:ByteArray) (a1p:Option Addr) (a1n:Nat) (a1c:Nat) (a2:ByteArray) (a3p:Option Addr) (a3n:Nat) (a3c:Nat) (a4p:Option Addr) (a4n:Nat) (a4c:Nat) (s0 s1:Bool) (w:World) (ht:(a2.toList == [])=true) (h0:Kp Tryz.prog w 188 #[.slice a3p a3n a3c,.int .i64 1,.int .i64 4,.func (.func 124) #[.agg #[.map (some m1),.map (some m2),.map (some m3)]] #[]] (.bool s0))
  (hE:∀ W z fb sb,W=plus w z→(∀ j v,(#[.map (some m1),.map (some m2),.map (some m3)]:Array Value)[j]?=some v→W.cell? ⟨fb,j,none⟩=some v)→W.cell? ⟨sb,3,none⟩=some (.slice a3p a3n a3c)→Kp Tryz.prog W 191 #[.slice a4p a4n a4c,.int .i64 1,.int .i64 16,.func (.func 192) #[] #[.pointer (some ⟨fb,0,none⟩),.pointer (some ⟨sb,0,none⟩)]] (.bool s1)) :
  Kp Tryz.prog w 132 #[.agg #[.map (some m1),.map (some m2),.map (some m3)],.agg #[.string a0,.slice a1p a1n a1c,.string a2,.slice a3p a3n a3c,.slice a4p a4n a4c]] (.bool (s0 && s1)):=by
 intro y0
 have h0:=h0.up y0
 have hE:∀ W z fb sb,W=plus (plus w y0) z→(∀ j v,(#[.map (some m1),.map (some m2),.map (some m3)]:Array Value)[j]?=some v→W.cell? ⟨fb,j,none⟩=some v)→W.cell? ⟨sb,3,none⟩=some (.slice a3p a3n a3c)→Kp Tryz.prog W 191 #[.slice a4p a4n a4c,.int .i64 1,.int .i64 16,.func (.func 192) #[] #[.pointer (some ⟨fb,0,none⟩),.pointer (some ⟨sb,0,none⟩)]] (.bool s1):=fun W z fb sb hW=>hE W _ fb sb (hW.trans (plus_plus _ _ _))
 obtain⟨V,hV⟩:∃ V,plus w y0=V:=⟨_,rfl⟩
 rw [hV] at h0 hE ⊢
 clear hV
 have hmf:∀ (fn:Fn) (first cap:Array Value) (w:World),(Instr.makeFunc fn first cap).run Tryz.prog w=.ok (.func fn first cap) w:=fun _ _ _ _=>rfl
 have ht2:a2.toList=[]:=by simpa using ht
 cases s0
 case false =>
  have h0:=Lib.hid h0
  have hE:=Lib.hid hE
  go_enter Tryz.func132,Tryz.ntmps132
  go_wp2_with fail
  obtain⟨W,yy,hW,⟨z,hz⟩,ca,cb⟩:=box2n V _ _ 117 61
  rw [hW]
  have ca0:=ca 0 _ rfl
  have ca1:=ca 1 _ rfl
  have ca2:=ca 2 _ rfl
  have cb0:=cb 0 _ rfl
  have cb1:=cb 1 _ rfl
  have cb2:=cb 2 _ rfl
  have cb3:=cb 3 _ rfl
  have cb4:=cb 4 _ rfl
  have q0:=Lib.hid (kp_at hz h0.out)
  have q1:=Lib.hid (hE.out W z _ _ hz (fun j v hj=>by have:=ca j _ hj ⟨#[],W.drawn⟩;rwa [plus_self] at this) (by have:=cb3 ⟨#[],W.drawn⟩;rwa [plus_self] at this)).pure
  have hz':=Lib.hid hz
  clear hW hz ca cb h0 hE
  refine (q0.out _).mono ?_
  rintro r w' ⟨rfl,x1,rfl⟩
  go_wp2_with fail
  go_ret
  exact⟨rfl,pp hz'.out⟩
 case true =>
  have h0:=Lib.hid h0
  have hE:=Lib.hid hE
  go_enter Tryz.func132,Tryz.ntmps132
  go_wp2_with fail
  obtain⟨W,yy,hW,⟨z,hz⟩,ca,cb⟩:=box2n V _ _ 117 61
  rw [hW]
  have ca0:=ca 0 _ rfl
  have ca1:=ca 1 _ rfl
  have ca2:=ca 2 _ rfl
  have cb0:=cb 0 _ rfl
  have cb1:=cb 1 _ rfl
  have cb2:=cb 2 _ rfl
  have cb3:=cb 3 _ rfl
  have cb4:=cb 4 _ rfl
  have q0:=Lib.hid (kp_at hz h0.out)
  have q1:=Lib.hid (hE.out W z _ _ hz (fun j v hj=>by have:=ca j _ hj ⟨#[],W.drawn⟩;rwa [plus_self] at this) (by have:=cb3 ⟨#[],W.drawn⟩;rwa [plus_self] at this)).pure
  have hz':=Lib.hid hz
  clear hW hz ca cb h0 hE
  refine (q0.out _).mono ?_
  rintro r w' ⟨rfl,x1,rfl⟩
  go_wp2_with (go_at_call 191;with_reducible refine (q1.out _).mono ?_;rintro r w' ⟨rfl,x,rfl⟩)
  go_ret
  exact⟨rfl,pp hz'.out⟩
def fv_block (fb c:Nat):Value:=.func (.func 137) #[] #[.pointer (some ⟨fb,0,none⟩),.pointer (some ⟨c,0,none⟩)]
set_option maxRecDepth 100000 in
set_option maxHeartbeats 8000000 in
theorem stmt11_of (m1 m2 m3:Nat) (a0:Int) (a1:ByteArray) (a2:ByteArray) (a3:Int) (a4:Int) (a5:Int) (a6:Int) (a7:ByteArray) (a8:ByteArray) (a9:Int) (a10:Int) (a11p:Option Addr) (a11n:Nat) (a11c:Nat) (a12p:Option Addr) (a12n:Nat) (a12c:Nat) (a13p:Option Addr) (a13n:Nat) (a13c:Nat) (fb c rc:Nat) (k r:Int) (s0:Bool) (s1:Bool) (s2:Bool) (w:World) (hf0:w.cell? ⟨fb,0,none⟩=some (.map (some m1))) (hf1:w.cell? ⟨fb,1,none⟩=some (.map (some m2))) (hf2:w.cell? ⟨fb,2,none⟩=some (.map (some m3))) (hc:w.cell? ⟨c,0,none⟩=some (.func (.func 137) #[] #[.pointer (some ⟨fb,0,none⟩),.pointer (some ⟨c,0,none⟩)])) (hr:w.cell? ⟨rc,0,none⟩=some (.int .i64 k)) (hk:wrap64 (k - 1)=r)
  (h0:Kp Tryz.prog w 140 #[.agg #[.map (some m1),.map (some m2),.map (some m3)],.agg #[.int .u8 a0,.string a1,.string a2,.int .u8 a3,.int .i64 a4,.int .u64 a5,.int .u64 a6,.string a7,.string a8,.int .i64 a9,.int .i64 a10,.slice a11p a11n a11c,.slice a12p a12n a12c,.slice a13p a13n a13c]] (.bool s0))
  (h1:Kp Tryz.prog w 137 #[.slice a12p a12n a12c,.int .i64 r,.pointer (some ⟨fb,0,none⟩),.pointer (some ⟨c,0,none⟩)] (.bool s1))
  (h2:Kp Tryz.prog w 137 #[.slice a13p a13n a13c,.int .i64 r,.pointer (some ⟨fb,0,none⟩),.pointer (some ⟨c,0,none⟩)] (.bool s2)) :
  Kp Tryz.prog w 139 #[.agg #[.int .u8 a0,.string a1,.string a2,.int .u8 a3,.int .i64 a4,.int .u64 a5,.int .u64 a6,.string a7,.string a8,.int .i64 a9,.int .i64 a10,.slice a11p a11n a11c,.slice a12p a12n a12c,.slice a13p a13n a13c],.pointer (some ⟨fb,0,none⟩),.pointer (some ⟨c,0,none⟩),.pointer (some ⟨rc,0,none⟩)] (.bool (((s0) && ((s1) && (s2))))):=by
 intro y0
 have h0:=h0.up y0
 have h1:=h1.up y0
 have h2:=h2.up y0
 have hf0:=cell_keep hf0 y0
 have hf1:=cell_keep hf1 y0
 have hf2:=cell_keep hf2 y0
 have hc:=cell_keep hc y0
 have hr:=cell_keep hr y0
 obtain⟨V,hV⟩:∃ V,plus w y0=V:=⟨_,rfl⟩
 rw [hV] at h0 h1 h2 hf0 hf1 hf2 hc hr ⊢
 clear hV
 have hf0x:=fun a=>cell_alloc hf0 a
 have hf1x:=fun a=>cell_alloc hf1 a
 have hf2x:=fun a=>cell_alloc hf2 a
 have hcx:=fun a=>cell_alloc hc a
 have hrx:=fun a=>cell_alloc hr a
 obtain⟨R,hR⟩:∃ R,(((s0) && ((s1) && (s2))))=R:=⟨_,rfl⟩
 rw [hR]
 cases s0
 case false =>
  have hF:=Lib.hid (show (false)=R by first | exact hR|(rw [← hR];simp))
  clear hR
  clear h1 h2
  have h0:=Lib.hid h0
  go_enter Tryz.func139,Tryz.ntmps139
  go_wp2_with fail
  obtain⟨W,yy,hW,⟨z,hz⟩,cb0⟩:=box1n V _ 47
  rw [hW]
  have c0_0:=cb0 0 _ rfl
  have c0_1:=cb0 1 _ rfl
  have c0_2:=cb0 2 _ rfl
  have c0_3:=cb0 3 _ rfl
  have c0_4:=cb0 4 _ rfl
  have c0_5:=cb0 5 _ rfl
  have c0_6:=cb0 6 _ rfl
  have c0_7:=cb0 7 _ rfl
  have c0_8:=cb0 8 _ rfl
  have c0_9:=cb0 9 _ rfl
  have c0_10:=cb0 10 _ rfl
  have c0_11:=cb0 11 _ rfl
  have c0_12:=cb0 12 _ rfl
  have c0_13:=cb0 13 _ rfl
  have q0c:=Lib.hid (kp_at hz h0.out)
  have hcy:=fun y=>cell_keep (cell_at hz hc) y
  have hry:=fun y=>cell_keep (cell_at hz hr) y
  have hz':=Lib.hid hz
  clear hW hz cb0
  refine (q0c.out _).mono ?_
  rintro r w' ⟨rfl,x1,rfl⟩
  go_wp2_with fail
  go_ret
  exact⟨rb hF.out,pp hz'.out⟩
 case true =>
  cases s1
  case false =>
   have hF:=Lib.hid (show (false)=R by first | exact hR|(rw [← hR];simp))
   clear hR
   clear h2
   have h0:=Lib.hid h0
   have h1:=Lib.hid h1
   go_enter Tryz.func139,Tryz.ntmps139
   go_wp2_with fail
   obtain⟨W,yy,hW,⟨z,hz⟩,cb0⟩:=box1n V _ 47
   rw [hW]
   have c0_0:=cb0 0 _ rfl
   have c0_1:=cb0 1 _ rfl
   have c0_2:=cb0 2 _ rfl
   have c0_3:=cb0 3 _ rfl
   have c0_4:=cb0 4 _ rfl
   have c0_5:=cb0 5 _ rfl
   have c0_6:=cb0 6 _ rfl
   have c0_7:=cb0 7 _ rfl
   have c0_8:=cb0 8 _ rfl
   have c0_9:=cb0 9 _ rfl
   have c0_10:=cb0 10 _ rfl
   have c0_11:=cb0 11 _ rfl
   have c0_12:=cb0 12 _ rfl
   have c0_13:=cb0 13 _ rfl
   have q0c:=Lib.hid (kp_at hz h0.out)
   have q1c:=Lib.hid (kp_at hz h1.out)
   have hcy:=fun y=>cell_keep (cell_at hz hc) y
   have hry:=fun y=>cell_keep (cell_at hz hr) y
   have hz':=Lib.hid hz
   clear hW hz cb0
   refine (q0c.out _).mono ?_
   rintro r w' ⟨rfl,x1,rfl⟩
   go_wp2_with (first|(go_at_call 137;with_reducible refine (q1c.out _).mono ?_;rintro r w' ⟨rfl,x,rfl⟩))
   go_ret
   exact⟨rb hF.out,pp hz'.out⟩
  case true =>
   cases s2
   case false =>
    have hF:=Lib.hid (show (false)=R by first | exact hR|(rw [← hR];simp))
    clear hR
    have h0:=Lib.hid h0
    have h1:=Lib.hid h1
    have h2:=Lib.hid h2
    go_enter Tryz.func139,Tryz.ntmps139
    go_wp2_with fail
    obtain⟨W,yy,hW,⟨z,hz⟩,cb0⟩:=box1n V _ 47
    rw [hW]
    have c0_0:=cb0 0 _ rfl
    have c0_1:=cb0 1 _ rfl
    have c0_2:=cb0 2 _ rfl
    have c0_3:=cb0 3 _ rfl
    have c0_4:=cb0 4 _ rfl
    have c0_5:=cb0 5 _ rfl
    have c0_6:=cb0 6 _ rfl
    have c0_7:=cb0 7 _ rfl
    have c0_8:=cb0 8 _ rfl
    have c0_9:=cb0 9 _ rfl
    have c0_10:=cb0 10 _ rfl
    have c0_11:=cb0 11 _ rfl
    have c0_12:=cb0 12 _ rfl
    have c0_13:=cb0 13 _ rfl
    have q0c:=Lib.hid (kp_at hz h0.out)
    have q1c:=Lib.hid (kp_at hz h1.out)
    have q2c:=Lib.hid (kp_at hz h2.out)
    have hcy:=fun y=>cell_keep (cell_at hz hc) y
    have hry:=fun y=>cell_keep (cell_at hz hr) y
    have hz':=Lib.hid hz
    clear hW hz cb0
    refine (q0c.out _).mono ?_
    rintro r w' ⟨rfl,x1,rfl⟩
    go_wp2_with (first|(go_at_call 137;with_reducible refine (q1c.out _).mono ?_;rintro r w' ⟨rfl,x,rfl⟩)|(go_at_call 137;with_reducible refine (q2c.out _).mono ?_;rintro r w' ⟨rfl,x,rfl⟩))
    go_ret
    exact⟨rb hF.out,pp hz'.out⟩
   case true =>
    have hF:=Lib.hid (show (true)=R by first | exact hR|(rw [← hR];simp))
    clear hR
    have h0:=Lib.hid h0
    have h1:=Lib.hid h1
    have h2:=Lib.hid h2
    go_enter Tryz.func139,Tryz.ntmps139
    go_wp2_with fail
    obtain⟨W,yy,hW,⟨z,hz⟩,cb0⟩:=box1n V _ 47
    rw [hW]
    have c0_0:=cb0 0 _ rfl
    have c0_1:=cb0 1 _ rfl
    have c0_2:=cb0 2 _ rfl
    have c0_3:=cb0 3 _ rfl
    have c0_4:=cb0 4 _ rfl
    have c0_5:=cb0 5 _ rfl
    have c0_6:=cb0 6 _ rfl
    have c0_7:=cb0 7 _ rfl
    have c0_8:=cb0 8 _ rfl
    have c0_9:=cb0 9 _ rfl
    have c0_10:=cb0 10 _ rfl
    have c0_11:=cb0 11 _ rfl
    have c0_12:=cb0 12 _ rfl
    have c0_13:=cb0 13 _ rfl
    have q0c:=Lib.hid (kp_at hz h0.out)
    have q1c:=Lib.hid (kp_at hz h1.out)
    have q2c:=Lib.hid (kp_at hz h2.out)
    have hcy:=fun y=>cell_keep (cell_at hz hc) y
    have hry:=fun y=>cell_keep (cell_at hz hr) y
    have hz':=Lib.hid hz
    clear hW hz cb0
    refine (q0c.out _).mono ?_
    rintro r w' ⟨rfl,x1,rfl⟩
    go_wp2_with (first|(go_at_call 137;with_reducible refine (q1c.out _).mono ?_;rintro r w' ⟨rfl,x,rfl⟩)|(go_at_call 137;with_reducible refine (q2c.out _).mono ?_;rintro r w' ⟨rfl,x,rfl⟩))
    go_ret
    exact⟨rb hF.out,pp hz'.out⟩
set_option maxRecDepth 100000 in
set_option maxHeartbeats 8000000 in
theorem block1_none (lp:Option Addr) (ln lc:Nat) (fb c:Nat) (w:World):Kp Tryz.prog w 137 #[.slice lp ln lc,.int .i64 0,.pointer (some ⟨fb,0,none⟩),.pointer (some ⟨c,0,none⟩)] (.bool ((ln:Int) == 0)):=by
 intro y0
 obtain⟨V,hV⟩:∃ V,plus w y0=V:=⟨_,rfl⟩
 rw [hV]
 clear hV
 go_enter Tryz.func137,Tryz.ntmps137
 go_wp2_with fail
 go_ret
 exact⟨rfl,alloc1_plus _ _⟩
set_option maxRecDepth 100000 in
set_option maxHeartbeats 8000000 in
theorem block1_some (lp:Option Addr) (ln lc:Nat) (fb c:Nat) (k:Int) (s1:Bool) (w:World) (hk:(k == 0)=false)
  (hE:∀ W z rc,W=plus w z→W.cell? ⟨rc,0,none⟩=some (.int .i64 k)→Kp Tryz.prog W 138 #[.slice lp ln lc,.int .i64 0,.int .i64 32,.func (.func 139) #[] #[.pointer (some ⟨fb,0,none⟩),.pointer (some ⟨c,0,none⟩),.pointer (some ⟨rc,0,none⟩)]] (.bool s1)) :
  Kp Tryz.prog w 137 #[.slice lp ln lc,.int .i64 k,.pointer (some ⟨fb,0,none⟩),.pointer (some ⟨c,0,none⟩)] (.bool s1):=by
 intro y0
 have hE:∀ W z rc,W=plus (plus w y0) z→W.cell? ⟨rc,0,none⟩=some (.int .i64 k)→Kp Tryz.prog W 138 #[.slice lp ln lc,.int .i64 0,.int .i64 32,.func (.func 139) #[] #[.pointer (some ⟨fb,0,none⟩),.pointer (some ⟨c,0,none⟩),.pointer (some ⟨rc,0,none⟩)]] (.bool s1):=fun W z rc hW=>hE W _ rc (hW.trans (plus_plus _ _ _))
 obtain⟨V,hV⟩:∃ V,plus w y0=V:=⟨_,rfl⟩
 rw [hV] at hE ⊢
 clear hV
 have hmf:∀ (fn:Fn) (first cap:Array Value) (w:World),(Instr.makeFunc fn first cap).run Tryz.prog w=.ok (.func fn first cap) w:=fun _ _ _ _=>rfl
 have hE:=Lib.hid hE
 go_enter Tryz.func137,Tryz.ntmps137
 go_wp2_with fail
 obtain⟨W,yy,hW,⟨z,hz⟩,ca⟩:=box1n V _ 3
 rw [hW]
 have ca0:=ca 0 _ rfl
 have q1:=Lib.hid (hE.out W z _ hz (by have:=ca0 ⟨#[],W.drawn⟩;rwa [plus_self] at this)).pure
 have hz':=Lib.hid hz
 clear hW hz ca hE
 refine (q1.out _).mono ?_
 rintro r w' ⟨rfl,x1,rfl⟩
 go_wp2_with fail
 go_ret
 exact⟨rfl,pp hz'.out⟩
set_option maxRecDepth 100000 in
set_option maxHeartbeats 8000000 in
theorem block_of (m1 m2 m3:Nat) (lp:Option Addr) (ln lc:Nat) (s1:Bool) (w:World)
  (hE:∀ W z fb c,W=plus w z→(∀ j v,(#[.map (some m1),.map (some m2),.map (some m3)]:Array Value)[j]?=some v→W.cell? ⟨fb,j,none⟩=some v)→W.cell? ⟨c,0,none⟩=some (fv_block fb c)→Kp Tryz.prog W 137 #[.slice lp ln lc,.int .i64 8,.pointer (some ⟨fb,0,none⟩),.pointer (some ⟨c,0,none⟩)] (.bool s1)) :
  Kp Tryz.prog w 63 #[.agg #[.map (some m1),.map (some m2),.map (some m3)],.slice lp ln lc] (.bool s1):=by
 intro y0
 have hE:∀ W z fb c,W=plus (plus w y0) z→(∀ j v,(#[.map (some m1),.map (some m2),.map (some m3)]:Array Value)[j]?=some v→W.cell? ⟨fb,j,none⟩=some v)→W.cell? ⟨c,0,none⟩=some (fv_block fb c)→Kp Tryz.prog W 137 #[.slice lp ln lc,.int .i64 8,.pointer (some ⟨fb,0,none⟩),.pointer (some ⟨c,0,none⟩)] (.bool s1):=fun W z fb c hW=>hE W _ fb c (hW.trans (plus_plus _ _ _))
 obtain⟨V,hV⟩:∃ V,plus w y0=V:=⟨_,rfl⟩
 rw [hV] at hE ⊢
 clear hV
 have hmf:∀ (fn:Fn) (first cap:Array Value) (w:World),(Instr.makeFunc fn first cap).run Tryz.prog w=.ok (.func fn first cap) w:=fun _ _ _ _=>rfl
 have hE:=Lib.hid hE
 go_enter Tryz.func63,Tryz.ntmps63
 go_wp2_with fail
 obtain⟨W,yy,hW,⟨z,hz⟩,ca,cb⟩:=box2n V _ _ 117 _
 rw [hW]
 have cb0:=cb 0 _ rfl
 have q1:=Lib.hid (hE.out W z _ _ hz (fun j v hj=>by have:=ca j _ hj ⟨#[],W.drawn⟩;rwa [plus_self] at this) (by have:=cb0 ⟨#[],W.drawn⟩;rwa [plus_self] at this)).pure
 have hz':=Lib.hid hz
 clear hW hz ca cb hE
 refine (q1.out _).mono ?_
 rintro r w' ⟨rfl,x1,rfl⟩
 go_wp2_with fail
 go_ret
 exact⟨rfl,pp hz'.out⟩
end Go.Proofs.YtobhijbncchpiaaGreat

/-
  WHAT IS PROVED HERE: a part of the proof (made narrower and merged by program; the parts: Hj).
-/
import Derived.Test.YtlmhldcebllckaaGreatRows
import Derived.WalkKit
import Derived.Lib.Hide
import Derived.WalkSpells
import Derived.WalkLawsBesides
import Derived.Laws.EntriesVeiled
import Derived.Shelf.Abstract
import Derived.Test.YtlmhldcebllckaaGreatM34
namespace Go.Proofs.YtlmhldcebllckaaGreat
open Go.RowKit
set_option maxRecDepth 100000 in
set_option maxHeartbeats 8000000 in
theorem mayset_of (m1 m2 m3:Nat) (a0:Int) (a1:Int) (a2:Int) (a3:Int) (a4:Int) (a5:Int) (a6:Int) (fv fm:Bool) (is:Bool) (s0:Bool) (w:World) (hL:∀ W z,W = plus w z → (Instr.lookup 92 (.map (some m2)) (.int .u8 a0) true).run Tryz.prog W = .ok (.tuple #[.agg #[.bool fv,.bool fm],.bool is]) W)
  (h0:Kp Tryz.prog w 168 #[.agg #[.bool fv,.bool fm],.agg #[.int .u8 a0,.int .i64 a1,.int .u64 a2,.int .u64 a3,.int .i64 a4,.int .u64 a5,.int .u64 a6]] (.bool s0)) :
  Kp Tryz.prog w 156 #[.agg #[.map (some m1),.map (some m2),.map (some m3)],.agg #[.int .u8 a0,.int .i64 a1,.int .u64 a2,.int .u64 a3,.int .i64 a4,.int .u64 a5,.int .u64 a6]] (.bool (is && s0)):=by
 intro y0
 have h0:=h0.up y0
 have hL:∀ W z,W = plus (plus w y0) z → (Instr.lookup 92 (.map (some m2)) (.int .u8 a0) true).run Tryz.prog W = .ok (.tuple #[.agg #[.bool fv,.bool fm],.bool is]) W:=fun W z hW=>hL W _ (hW.trans (plus_plus _ _ _))
 obtain ⟨V,hV⟩:∃ V,plus w y0 = V:=⟨_,rfl⟩
 rw [hV] at h0 hL ⊢
 clear hV
 have hL2:∀ a b,(Instr.lookup 92 (.map (some m2)) (.int .u8 a0) true).run Tryz.prog ((V.alloc a).alloc b) = .ok (.tuple #[.agg #[.bool fv,.bool fm],.bool is]) ((V.alloc a).alloc b):=fun a b=>by
  obtain ⟨x,hx⟩:=alloc2_plus V a b
  exact hL _ x hx
 clear hL
 obtain ⟨R,hR⟩:∃ R,(is && s0) = R:=⟨_,rfl⟩
 rw [hR]
 cases is
 case false =>
  have hF:=Lib.hid hR
  clear hR h0
  go_enter Tryz.func156,Tryz.ntmps156
  go_wp2_with fail
  go_ret
  exact ⟨rb hF.out,alloc3_plus _ _ _ _⟩
 case true =>
  cases s0
  case false =>
   have hF:=Lib.hid hR
   clear hR
   have h0:=Lib.hid h0
   go_enter Tryz.func156,Tryz.ntmps156
   go_wp2_with fail
   obtain ⟨W,yy,hW,⟨z,hz⟩,ca,cb,cc⟩:=box3n V _ _ _ 95 163 169
   rw [hW]
   have ca0:=ca 0 _ rfl
   have ca1:=ca 1 _ rfl
   have ca2:=ca 2 _ rfl
   have cb0:=cb 0 _ rfl
   have cb1:=cb 1 _ rfl
   have cb2:=cb 2 _ rfl
   have cb3:=cb 3 _ rfl
   have cb4:=cb 4 _ rfl
   have cb5:=cb 5 _ rfl
   have cb6:=cb 6 _ rfl
   have cc0:=cc 0 _ rfl
   have cc1:=cc 1 _ rfl
   have q0:=Lib.hid (kp_at hz h0.out)
   have hz':=Lib.hid hz
   clear hW hz ca cb cc h0
   refine (q0.out _).mono ?_
   rintro r w' ⟨rfl,x1,rfl⟩
   go_wp2_with fail
   go_ret
   exact ⟨rb hF.out,pp hz'.out⟩
  case true =>
   have hF:=Lib.hid hR
   clear hR
   have h0:=Lib.hid h0
   go_enter Tryz.func156,Tryz.ntmps156
   go_wp2_with fail
   obtain ⟨W,yy,hW,⟨z,hz⟩,ca,cb,cc⟩:=box3n V _ _ _ 95 163 169
   rw [hW]
   have ca0:=ca 0 _ rfl
   have ca1:=ca 1 _ rfl
   have ca2:=ca 2 _ rfl
   have cb0:=cb 0 _ rfl
   have cb1:=cb 1 _ rfl
   have cb2:=cb 2 _ rfl
   have cb3:=cb 3 _ rfl
   have cb4:=cb 4 _ rfl
   have cb5:=cb 5 _ rfl
   have cb6:=cb 6 _ rfl
   have cc0:=cc 0 _ rfl
   have cc1:=cc 1 _ rfl
   have q0:=Lib.hid (kp_at hz h0.out)
   have hz':=Lib.hid hz
   clear hW hz ca cb cc h0
   refine (q0.out _).mono ?_
   rintro r w' ⟨rfl,x1,rfl⟩
   go_wp2_with fail
   go_ret
   exact ⟨rb hF.out,pp hz'.out⟩
set_option maxRecDepth 100000 in
set_option maxHeartbeats 8000000 in
theorem maystmt_of (m1 m2 m3:Nat) (a0:Int) (a1:ByteArray) (a2:ByteArray) (a3:Int) (a4:Int) (a5:Int) (a6:Int) (a7:ByteArray) (a8:ByteArray) (a9:Int) (a10:Int) (a11p:Option Addr) (a11n:Nat) (a11c:Nat) (a12p:Option Addr) (a12n:Nat) (a12c:Nat) (a13p:Option Addr) (a13n:Nat) (a13c:Nat) (fh fn:Int) (fe fk:Bool) (is:Bool) (s0:Bool) (s1:Bool) (s2:Bool) (w:World) (hL:∀ W z,W = plus w z → (Instr.lookup 93 (.map (some m3)) (.int .u8 a0) true).run Tryz.prog W = .ok (.tuple #[.agg #[.int .u8 fh,.int .u8 fn,.bool fe,.bool fk],.bool is]) W)
  (h0:Kp Tryz.prog w 140 #[.agg #[.int .u8 fh,.int .u8 fn,.bool fe,.bool fk],.agg #[.int .u8 a0,.string a1,.string a2,.int .u8 a3,.int .i64 a4,.int .u64 a5,.int .u64 a6,.string a7,.string a8,.int .i64 a9,.int .i64 a10,.slice a11p a11n a11c,.slice a12p a12n a12c,.slice a13p a13n a13c]] (.bool s0))
  (h1:Kp Tryz.prog w 141 #[.agg #[.int .u8 a3,.int .i64 a4,.int .u64 a5,.int .u64 a6,.string a7,.string a8,.int .i64 a9,.int .i64 a10,.slice a11p a11n a11c],.agg #[.int .u8 0,.int .i64 0,.int .u64 0,.int .u64 0,.string ⟨#[]⟩,.string ⟨#[]⟩,.int .i64 0,.int .i64 0,.slice none 0 0]] (.bool s1))
  (h2:Kp Tryz.prog w 135 #[.agg #[.map (some m1),.map (some m2),.map (some m3)],.agg #[.int .u8 a3,.int .i64 a4,.int .u64 a5,.int .u64 a6,.string a7,.string a8,.int .i64 a9,.int .i64 a10,.slice a11p a11n a11c]] (.bool s2)) :
  Kp Tryz.prog w 100 #[.agg #[.map (some m1),.map (some m2),.map (some m3)],.agg #[.int .u8 a0,.string a1,.string a2,.int .u8 a3,.int .i64 a4,.int .u64 a5,.int .u64 a6,.string a7,.string a8,.int .i64 a9,.int .i64 a10,.slice a11p a11n a11c,.slice a12p a12n a12c,.slice a13p a13n a13c]] (.bool (is && (s0 && (if fe then s2 else s1)))):=by
 intro y0
 have h0:=h0.up y0
 have h1:=h1.up y0
 have h2:=h2.up y0
 have hL:∀ W z,W = plus (plus w y0) z → (Instr.lookup 93 (.map (some m3)) (.int .u8 a0) true).run Tryz.prog W = .ok (.tuple #[.agg #[.int .u8 fh,.int .u8 fn,.bool fe,.bool fk],.bool is]) W:=fun W z hW=>hL W _ (hW.trans (plus_plus _ _ _))
 obtain ⟨V,hV⟩:∃ V,plus w y0 = V:=⟨_,rfl⟩
 rw [hV] at h0 h1 h2 hL ⊢
 clear hV
 have hL2:∀ a b,(Instr.lookup 93 (.map (some m3)) (.int .u8 a0) true).run Tryz.prog ((V.alloc a).alloc b) = .ok (.tuple #[.agg #[.int .u8 fh,.int .u8 fn,.bool fe,.bool fk],.bool is]) ((V.alloc a).alloc b):=fun a b=>by
  obtain ⟨x,hx⟩:=alloc2_plus V a b
  exact hL _ x hx
 clear hL
 obtain ⟨R,hR⟩:∃ R,(is && (s0 && (if fe then s2 else s1))) = R:=⟨_,rfl⟩
 rw [hR]
 cases is
 case false =>
  have hF:=Lib.hid hR
  clear hR h0 h1 h2
  go_enter Tryz.func100,Tryz.ntmps100
  go_wp2_with fail
  go_ret
  exact ⟨rb hF.out,alloc3_plus _ _ _ _⟩
 case true =>
  cases s0
  case false =>
   have hF:=Lib.hid hR
   clear hR h1 h2
   have h0:=Lib.hid h0
   go_enter Tryz.func100,Tryz.ntmps100
   go_wp2_with fail
   obtain ⟨W,yy,hW,⟨z,hz⟩,ca,cb,cc⟩:=box3n V _ _ _ 95 75 171
   rw [hW]
   have ca0:=ca 0 _ rfl
   have ca1:=ca 1 _ rfl
   have ca2:=ca 2 _ rfl
   have cb0:=cb 0 _ rfl
   have cb1:=cb 1 _ rfl
   have cb2:=cb 2 _ rfl
   have cb3:=cb 3 _ rfl
   have cb4:=cb 4 _ rfl
   have cb5:=cb 5 _ rfl
   have cb6:=cb 6 _ rfl
   have cb7:=cb 7 _ rfl
   have cb8:=cb 8 _ rfl
   have cb9:=cb 9 _ rfl
   have cb10:=cb 10 _ rfl
   have cb11:=cb 11 _ rfl
   have cb12:=cb 12 _ rfl
   have cb13:=cb 13 _ rfl
   have cc0:=cc 0 _ rfl
   have cc1:=cc 1 _ rfl
   have cc2:=cc 2 _ rfl
   have cc3:=cc 3 _ rfl
   have q0:=Lib.hid (kp_at hz h0.out)
   have hz':=Lib.hid hz
   clear hW hz ca cb cc h0
   refine (q0.out _).mono ?_
   rintro r w' ⟨rfl,x1,rfl⟩
   go_wp2_with fail
   go_ret
   exact ⟨rb hF.out,pp hz'.out⟩
  case true =>
   cases fe
   case false =>
    cases s1
    case false =>
     have hF:=Lib.hid hR
     clear hR h2
     have h0:=Lib.hid h0
     have h1:=Lib.hid h1
     go_enter Tryz.func100,Tryz.ntmps100
     go_wp2_with fail
     obtain ⟨W,yy,hW,⟨z,hz⟩,ca,cb,cc⟩:=box3n V _ _ _ 95 75 171
     rw [hW]
     have ca0:=ca 0 _ rfl
     have ca1:=ca 1 _ rfl
     have ca2:=ca 2 _ rfl
     have cb0:=cb 0 _ rfl
     have cb1:=cb 1 _ rfl
     have cb2:=cb 2 _ rfl
     have cb3:=cb 3 _ rfl
     have cb4:=cb 4 _ rfl
     have cb5:=cb 5 _ rfl
     have cb6:=cb 6 _ rfl
     have cb7:=cb 7 _ rfl
     have cb8:=cb 8 _ rfl
     have cb9:=cb 9 _ rfl
     have cb10:=cb 10 _ rfl
     have cb11:=cb 11 _ rfl
     have cb12:=cb 12 _ rfl
     have cb13:=cb 13 _ rfl
     have cc0:=cc 0 _ rfl
     have cc1:=cc 1 _ rfl
     have cc2:=cc 2 _ rfl
     have cc3:=cc 3 _ rfl
     have q0:=Lib.hid (kp_at hz h0.out)
     have q1:=Lib.hid (kp_at hz h1.out)
     have hz':=Lib.hid hz
     clear hW hz ca cb cc h0 h1
     refine (q0.out _).mono ?_
     rintro r w' ⟨rfl,x1,rfl⟩
     go_wp2_with (first | (go_at_call 141;with_reducible refine (q1.out _).mono ?_;rintro r w' ⟨rfl,x,rfl⟩))
     go_ret
     exact ⟨rb hF.out,pp hz'.out⟩
    case true =>
     have hF:=Lib.hid hR
     clear hR h2
     have h0:=Lib.hid h0
     have h1:=Lib.hid h1
     go_enter Tryz.func100,Tryz.ntmps100
     go_wp2_with fail
     obtain ⟨W,yy,hW,⟨z,hz⟩,ca,cb,cc⟩:=box3n V _ _ _ 95 75 171
     rw [hW]
     have ca0:=ca 0 _ rfl
     have ca1:=ca 1 _ rfl
     have ca2:=ca 2 _ rfl
     have cb0:=cb 0 _ rfl
     have cb1:=cb 1 _ rfl
     have cb2:=cb 2 _ rfl
     have cb3:=cb 3 _ rfl
     have cb4:=cb 4 _ rfl
     have cb5:=cb 5 _ rfl
     have cb6:=cb 6 _ rfl
     have cb7:=cb 7 _ rfl
     have cb8:=cb 8 _ rfl
     have cb9:=cb 9 _ rfl
     have cb10:=cb 10 _ rfl
     have cb11:=cb 11 _ rfl
     have cb12:=cb 12 _ rfl
     have cb13:=cb 13 _ rfl
     have cc0:=cc 0 _ rfl
     have cc1:=cc 1 _ rfl
     have cc2:=cc 2 _ rfl
     have cc3:=cc 3 _ rfl
     have q0:=Lib.hid (kp_at hz h0.out)
     have q1:=Lib.hid (kp_at hz h1.out)
     have hz':=Lib.hid hz
     clear hW hz ca cb cc h0 h1
     refine (q0.out _).mono ?_
     rintro r w' ⟨rfl,x1,rfl⟩
     go_wp2_with (first | (go_at_call 141;with_reducible refine (q1.out _).mono ?_;rintro r w' ⟨rfl,x,rfl⟩))
     go_ret
     exact ⟨rb hF.out,pp hz'.out⟩
   case true =>
    cases s2
    case false =>
     have hF:=Lib.hid hR
     clear hR h1
     have h0:=Lib.hid h0
     have h2:=Lib.hid h2
     go_enter Tryz.func100,Tryz.ntmps100
     go_wp2_with fail
     obtain ⟨W,yy,hW,⟨z,hz⟩,ca,cb,cc⟩:=box3n V _ _ _ 95 75 171
     rw [hW]
     have ca0:=ca 0 _ rfl
     have ca1:=ca 1 _ rfl
     have ca2:=ca 2 _ rfl
     have cb0:=cb 0 _ rfl
     have cb1:=cb 1 _ rfl
     have cb2:=cb 2 _ rfl
     have cb3:=cb 3 _ rfl
     have cb4:=cb 4 _ rfl
     have cb5:=cb 5 _ rfl
     have cb6:=cb 6 _ rfl
     have cb7:=cb 7 _ rfl
     have cb8:=cb 8 _ rfl
     have cb9:=cb 9 _ rfl
     have cb10:=cb 10 _ rfl
     have cb11:=cb 11 _ rfl
     have cb12:=cb 12 _ rfl
     have cb13:=cb 13 _ rfl
     have cc0:=cc 0 _ rfl
     have cc1:=cc 1 _ rfl
     have cc2:=cc 2 _ rfl
     have cc3:=cc 3 _ rfl
     have q0:=Lib.hid (kp_at hz h0.out)
     have q2:=Lib.hid (kp_at hz h2.out)
     have hz':=Lib.hid hz
     clear hW hz ca cb cc h0 h2
     refine (q0.out _).mono ?_
     rintro r w' ⟨rfl,x1,rfl⟩
     go_wp2_with (first | (go_at_call 135;with_reducible refine (q2.out _).mono ?_;rintro r w' ⟨rfl,x,rfl⟩))
     go_ret
     exact ⟨rb hF.out,pp hz'.out⟩
    case true =>
     have hF:=Lib.hid hR
     clear hR h1
     have h0:=Lib.hid h0
     have h2:=Lib.hid h2
     go_enter Tryz.func100,Tryz.ntmps100
     go_wp2_with fail
     obtain ⟨W,yy,hW,⟨z,hz⟩,ca,cb,cc⟩:=box3n V _ _ _ 95 75 171
     rw [hW]
     have ca0:=ca 0 _ rfl
     have ca1:=ca 1 _ rfl
     have ca2:=ca 2 _ rfl
     have cb0:=cb 0 _ rfl
     have cb1:=cb 1 _ rfl
     have cb2:=cb 2 _ rfl
     have cb3:=cb 3 _ rfl
     have cb4:=cb 4 _ rfl
     have cb5:=cb 5 _ rfl
     have cb6:=cb 6 _ rfl
     have cb7:=cb 7 _ rfl
     have cb8:=cb 8 _ rfl
     have cb9:=cb 9 _ rfl
     have cb10:=cb 10 _ rfl
     have cb11:=cb 11 _ rfl
     have cb12:=cb 12 _ rfl
     have cb13:=cb 13 _ rfl
     have cc0:=cc 0 _ rfl
     have cc1:=cc 1 _ rfl
     have cc2:=cc 2 _ rfl
     have cc3:=cc 3 _ rfl
     have q0:=Lib.hid (kp_at hz h0.out)
     have q2:=Lib.hid (kp_at hz h2.out)
     have hz':=Lib.hid hz
     clear hW hz ca cb cc h0 h2
     refine (q0.out _).mono ?_
     rintro r w' ⟨rfl,x1,rfl⟩
     go_wp2_with (first | (go_at_call 135;with_reducible refine (q2.out _).mono ?_;rintro r w' ⟨rfl,x,rfl⟩))
     go_ret
     exact ⟨rb hF.out,pp hz'.out⟩
end Go.Proofs.YtlmhldcebllckaaGreat

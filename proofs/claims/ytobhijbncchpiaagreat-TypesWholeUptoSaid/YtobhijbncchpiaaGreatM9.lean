/-
  WHAT IS PROVED HERE: a part of the proof (made narrower and merged by program; the parts: Hd).
-/
import Derived.Shelf.Abstract
import Derived.Test.YtobhijbncchpiaaGreatM3
namespace Go.Proofs.YtobhijbncchpiaaGreat
open Go.RowKit
theorem cellsat_at {V W:World} {z:Ext} {a:Addr} {cs:List Value} (hz:W=plus V z) (h:CellsAt V a cs):CellsAt W a cs:=by rw [hz];exact h.plus z
set_option maxRecDepth 100000 in
set_option maxHeartbeats 8000000 in
theorem amount_of (a0:Int) (a1:Int) (a2:Int) (a3:Int) (a4:ByteArray) (a5:ByteArray) (a6:Int) (a7:Int) (a8p:Option Addr) (a8n:Nat) (a8c:Nat) (k:Int) (w:World)
  (h0:Kp Tryz.prog w 223 #[.int .u64 127] (.agg #[.int .u64 0,.int .u64 127]))
  (h1:Kp Tryz.prog w 222 #[.agg #[.int .u64 a2,.int .u64 a3],.agg #[.int .u64 0,.int .u64 127]] (.int .i64 k)) :
  Kp Tryz.prog w 213 #[.agg #[.int .u8 a0,.int .i64 a1,.int .u64 a2,.int .u64 a3,.string a4,.string a5,.int .i64 a6,.int .i64 a7,.slice a8p a8n a8c]] (.bool ((a0 == 1) && ((a1 == 0) && decide (k≤0)))):=by
 intro y0
 have h0:=h0.up y0
 have h1:=h1.up y0
 obtain⟨V,hV⟩:∃ V,plus w y0=V:=⟨_,rfl⟩
 rw [hV] at h0 h1 ⊢
 clear hV
 obtain⟨R,hR⟩:∃ R,((a0 == 1) && ((a1 == 0) && decide (k≤0)))=R:=⟨_,rfl⟩
 rw [hR]
 by_cases q1:(a0 == 1)=true
 case neg =>
  have q1:(a0 == 1)=false:=by simpa using q1
  have hF:=Lib.hid (show (false)=R by first | exact hR|(rw [← hR];simp [q1]))
  clear hR
  clear h0 h1
  go_enter Tryz.func213,Tryz.ntmps213
  go_wp2
  obtain⟨W,yy,hW,⟨z,hz⟩,cb0⟩:=box1n V _ 45
  rw [hW]
  have c0_0:=cb0 0 _ rfl
  have c0_1:=cb0 1 _ rfl
  have c0_2:=cb0 2 _ rfl
  have c0_3:=cb0 3 _ rfl
  have c0_4:=cb0 4 _ rfl
  have c0_5:=cb0 5 _ rfl
  have c0_6:=cb0 6 _ rfl
  have c0_7:=cb0 7 _ rfl
  have c0_8:=cb0 8 _ rfl
  have hz':=Lib.hid hz
  clear hW hz cb0
  refine wp_region_own (by kernel_rfl) (by kernel_rfl) ?_
  repeat (go_big_quiet_step (fail))
  refine wpQuiet_nil ?_
  rintro _ ⟨y1,rfl⟩
  go_wp2
  go_ret
  exact⟨rb hF.out,pp hz'.out⟩
 case pos =>
  by_cases q2:(a1 == 0)=true
  case neg =>
   have q2:(a1 == 0)=false:=by simpa using q2
   have hF:=Lib.hid (show (false)=R by first | exact hR|(rw [← hR];simp [q1,q2]))
   clear hR
   clear h0 h1
   go_enter Tryz.func213,Tryz.ntmps213
   go_wp2
   obtain⟨W,yy,hW,⟨z,hz⟩,cb0⟩:=box1n V _ 45
   rw [hW]
   have c0_0:=cb0 0 _ rfl
   have c0_1:=cb0 1 _ rfl
   have c0_2:=cb0 2 _ rfl
   have c0_3:=cb0 3 _ rfl
   have c0_4:=cb0 4 _ rfl
   have c0_5:=cb0 5 _ rfl
   have c0_6:=cb0 6 _ rfl
   have c0_7:=cb0 7 _ rfl
   have c0_8:=cb0 8 _ rfl
   have hz':=Lib.hid hz
   clear hW hz cb0
   refine wp_region_own (by kernel_rfl) (by kernel_rfl) ?_
   repeat (go_big_quiet_step (fail))
   refine wpQuiet_nil ?_
   rintro _ ⟨y1,rfl⟩
   go_wp2
   go_ret
   exact⟨rb hF.out,pp hz'.out⟩
  case pos =>
   have hF:=Lib.hid (show (decide (k≤0))=R by first | exact hR|(rw [← hR];simp [q1,q2]))
   clear hR
   have h0:=Lib.hid h0
   have h1:=Lib.hid h1
   go_enter Tryz.func213,Tryz.ntmps213
   go_wp2
   obtain⟨W,yy,hW,⟨z,hz⟩,cb0⟩:=box1n V _ 45
   rw [hW]
   have c0_0:=cb0 0 _ rfl
   have c0_1:=cb0 1 _ rfl
   have c0_2:=cb0 2 _ rfl
   have c0_3:=cb0 3 _ rfl
   have c0_4:=cb0 4 _ rfl
   have c0_5:=cb0 5 _ rfl
   have c0_6:=cb0 6 _ rfl
   have c0_7:=cb0 7 _ rfl
   have c0_8:=cb0 8 _ rfl
   have q0c:=Lib.hid (kp_at hz h0.out)
   have q1c:=Lib.hid (kp_at hz h1.out)
   have hz':=Lib.hid hz
   clear hW hz cb0
   refine wp_region_own (by kernel_rfl) (by kernel_rfl) ?_
   repeat (go_big_quiet_step (first|(with_reducible exact q0c.out _)|(with_reducible exact q1c.out _)))
   refine wpQuiet_nil ?_
   rintro _ ⟨y1,rfl⟩
   go_wp2
   go_ret
   exact⟨rb hF.out,pp hz'.out⟩
set_option maxRecDepth 100000 in
set_option maxHeartbeats 8000000 in
theorem fits_a (fl fs:Bool) (fh fn fa:Int) (a0:Int) (a1:Int) (a2:Int) (a3:Int) (a4:ByteArray) (a5:ByteArray) (a6:Int) (a7:Int) (a8p:Option Addr) (a8n:Nat) (a8c:Nat) (s0:Bool) (s1:Bool) (s2:Bool) (s3:Bool) (w:World)
  (h0:Kp Tryz.prog w 210 #[.agg #[.int .i64 a1,.int .u64 a2,.int .u64 a3],.bool fl] (.bool s0))
  (h1:Kp Tryz.prog w 211 #[.string a4,.int .u8 fh] (.bool s1))
  (h2:Kp Tryz.prog w 211 #[.string a5,.int .u8 fn] (.bool s2))
  (h3:Kp Tryz.prog w 212 #[.int .i64 a6,.int .i64 a7,.bool fs] (.bool s3)) :
  Kp Tryz.prog w 187 #[.agg #[.bool fl,.bool fs,.int .u8 fh,.int .u8 fn,.int .i64 fa,.bool false],.agg #[.int .u8 a0,.int .i64 a1,.int .u64 a2,.int .u64 a3,.string a4,.string a5,.int .i64 a6,.int .i64 a7,.slice a8p a8n a8c]] (.bool (((s0) && ((s1) && ((s2) && ((s3) && ((a8n:Int) == fa))))))):=by
 intro y0
 have h0:=h0.up y0
 have h1:=h1.up y0
 have h2:=h2.up y0
 have h3:=h3.up y0
 obtain⟨V,hV⟩:∃ V,plus w y0=V:=⟨_,rfl⟩
 rw [hV] at h0 h1 h2 h3 ⊢
 clear hV
 obtain⟨R,hR⟩:∃ R,(((s0) && ((s1) && ((s2) && ((s3) && ((a8n:Int) == fa))))))=R:=⟨_,rfl⟩
 rw [hR]
 cases s0
 case false =>
  have hF:=Lib.hid (show (false)=R by first | exact hR|(rw [← hR];simp))
  clear hR
  clear h1 h2 h3
  have h0:=Lib.hid h0
  go_enter Tryz.func187,Tryz.ntmps187
  go_wp2_with fail
  obtain⟨W,yy,hW,⟨z,hz⟩,cb0,cb1⟩:=box2n V _ _ 215 45
  rw [hW]
  have c0_0:=cb0 0 _ rfl
  have c0_1:=cb0 1 _ rfl
  have c0_2:=cb0 2 _ rfl
  have c0_3:=cb0 3 _ rfl
  have c0_4:=cb0 4 _ rfl
  have c0_5:=cb0 5 _ rfl
  have c1_0:=cb1 0 _ rfl
  have c1_1:=cb1 1 _ rfl
  have c1_2:=cb1 2 _ rfl
  have c1_3:=cb1 3 _ rfl
  have c1_4:=cb1 4 _ rfl
  have c1_5:=cb1 5 _ rfl
  have c1_6:=cb1 6 _ rfl
  have c1_7:=cb1 7 _ rfl
  have c1_8:=cb1 8 _ rfl
  have q0c:=Lib.hid (kp_at hz h0.out)
  have hz':=Lib.hid hz
  clear hW hz cb0 cb1
  refine (q0c.out _).mono ?_
  rintro r w' ⟨rfl,x1,rfl⟩
  go_wp2_with fail
  go_ret
  exact⟨rb hF.out,pp hz'.out⟩
 case true =>
  cases s1
  case false =>
   have hF:=Lib.hid (show (false)=R by first | exact hR|(rw [← hR];simp))
   clear hR
   clear h2 h3
   have h0:=Lib.hid h0
   have h1:=Lib.hid h1
   go_enter Tryz.func187,Tryz.ntmps187
   go_wp2_with fail
   obtain⟨W,yy,hW,⟨z,hz⟩,cb0,cb1⟩:=box2n V _ _ 215 45
   rw [hW]
   have c0_0:=cb0 0 _ rfl
   have c0_1:=cb0 1 _ rfl
   have c0_2:=cb0 2 _ rfl
   have c0_3:=cb0 3 _ rfl
   have c0_4:=cb0 4 _ rfl
   have c0_5:=cb0 5 _ rfl
   have c1_0:=cb1 0 _ rfl
   have c1_1:=cb1 1 _ rfl
   have c1_2:=cb1 2 _ rfl
   have c1_3:=cb1 3 _ rfl
   have c1_4:=cb1 4 _ rfl
   have c1_5:=cb1 5 _ rfl
   have c1_6:=cb1 6 _ rfl
   have c1_7:=cb1 7 _ rfl
   have c1_8:=cb1 8 _ rfl
   have q0c:=Lib.hid (kp_at hz h0.out)
   have q1c:=Lib.hid (kp_at hz h1.out)
   have hz':=Lib.hid hz
   clear hW hz cb0 cb1
   refine (q0c.out _).mono ?_
   rintro r w' ⟨rfl,x1,rfl⟩
   go_wp2_with (first|(go_at_call 211;with_reducible refine (q1c.out _).mono ?_;rintro r w' ⟨rfl,x,rfl⟩))
   go_ret
   exact⟨rb hF.out,pp hz'.out⟩
  case true =>
   cases s2
   case false =>
    have hF:=Lib.hid (show (false)=R by first | exact hR|(rw [← hR];simp))
    clear hR
    clear h3
    have h0:=Lib.hid h0
    have h1:=Lib.hid h1
    have h2:=Lib.hid h2
    go_enter Tryz.func187,Tryz.ntmps187
    go_wp2_with fail
    obtain⟨W,yy,hW,⟨z,hz⟩,cb0,cb1⟩:=box2n V _ _ 215 45
    rw [hW]
    have c0_0:=cb0 0 _ rfl
    have c0_1:=cb0 1 _ rfl
    have c0_2:=cb0 2 _ rfl
    have c0_3:=cb0 3 _ rfl
    have c0_4:=cb0 4 _ rfl
    have c0_5:=cb0 5 _ rfl
    have c1_0:=cb1 0 _ rfl
    have c1_1:=cb1 1 _ rfl
    have c1_2:=cb1 2 _ rfl
    have c1_3:=cb1 3 _ rfl
    have c1_4:=cb1 4 _ rfl
    have c1_5:=cb1 5 _ rfl
    have c1_6:=cb1 6 _ rfl
    have c1_7:=cb1 7 _ rfl
    have c1_8:=cb1 8 _ rfl
    have q0c:=Lib.hid (kp_at hz h0.out)
    have q1c:=Lib.hid (kp_at hz h1.out)
    have q2c:=Lib.hid (kp_at hz h2.out)
    have hz':=Lib.hid hz
    clear hW hz cb0 cb1
    refine (q0c.out _).mono ?_
    rintro r w' ⟨rfl,x1,rfl⟩
    go_wp2_with (first|(go_at_call 211;with_reducible refine (q1c.out _).mono ?_;rintro r w' ⟨rfl,x,rfl⟩)|(go_at_call 211;with_reducible refine (q2c.out _).mono ?_;rintro r w' ⟨rfl,x,rfl⟩))
    go_ret
    exact⟨rb hF.out,pp hz'.out⟩
   case true =>
    cases s3
    case false =>
     have hF:=Lib.hid (show (false)=R by first | exact hR|(rw [← hR];simp))
     clear hR
     have h0:=Lib.hid h0
     have h1:=Lib.hid h1
     have h2:=Lib.hid h2
     have h3:=Lib.hid h3
     go_enter Tryz.func187,Tryz.ntmps187
     go_wp2_with fail
     obtain⟨W,yy,hW,⟨z,hz⟩,cb0,cb1⟩:=box2n V _ _ 215 45
     rw [hW]
     have c0_0:=cb0 0 _ rfl
     have c0_1:=cb0 1 _ rfl
     have c0_2:=cb0 2 _ rfl
     have c0_3:=cb0 3 _ rfl
     have c0_4:=cb0 4 _ rfl
     have c0_5:=cb0 5 _ rfl
     have c1_0:=cb1 0 _ rfl
     have c1_1:=cb1 1 _ rfl
     have c1_2:=cb1 2 _ rfl
     have c1_3:=cb1 3 _ rfl
     have c1_4:=cb1 4 _ rfl
     have c1_5:=cb1 5 _ rfl
     have c1_6:=cb1 6 _ rfl
     have c1_7:=cb1 7 _ rfl
     have c1_8:=cb1 8 _ rfl
     have q0c:=Lib.hid (kp_at hz h0.out)
     have q1c:=Lib.hid (kp_at hz h1.out)
     have q2c:=Lib.hid (kp_at hz h2.out)
     have q3c:=Lib.hid (kp_at hz h3.out)
     have hz':=Lib.hid hz
     clear hW hz cb0 cb1
     refine (q0c.out _).mono ?_
     rintro r w' ⟨rfl,x1,rfl⟩
     go_wp2_with (first|(go_at_call 211;with_reducible refine (q1c.out _).mono ?_;rintro r w' ⟨rfl,x,rfl⟩)|(go_at_call 211;with_reducible refine (q2c.out _).mono ?_;rintro r w' ⟨rfl,x,rfl⟩)|(go_at_call 212;with_reducible refine (q3c.out _).mono ?_;rintro r w' ⟨rfl,x,rfl⟩))
     go_ret
     exact⟨rb hF.out,pp hz'.out⟩
    case true =>
     by_cases q1:((a8n:Int) == fa)=true
     case neg =>
      have q1:((a8n:Int) == fa)=false:=by simpa using q1
      have hF:=Lib.hid (show (false)=R by first | exact hR|(rw [← hR];simp [q1]))
      clear hR
      have h0:=Lib.hid h0
      have h1:=Lib.hid h1
      have h2:=Lib.hid h2
      have h3:=Lib.hid h3
      go_enter Tryz.func187,Tryz.ntmps187
      go_wp2_with fail
      obtain⟨W,yy,hW,⟨z,hz⟩,cb0,cb1⟩:=box2n V _ _ 215 45
      rw [hW]
      have c0_0:=cb0 0 _ rfl
      have c0_1:=cb0 1 _ rfl
      have c0_2:=cb0 2 _ rfl
      have c0_3:=cb0 3 _ rfl
      have c0_4:=cb0 4 _ rfl
      have c0_5:=cb0 5 _ rfl
      have c1_0:=cb1 0 _ rfl
      have c1_1:=cb1 1 _ rfl
      have c1_2:=cb1 2 _ rfl
      have c1_3:=cb1 3 _ rfl
      have c1_4:=cb1 4 _ rfl
      have c1_5:=cb1 5 _ rfl
      have c1_6:=cb1 6 _ rfl
      have c1_7:=cb1 7 _ rfl
      have c1_8:=cb1 8 _ rfl
      have q0c:=Lib.hid (kp_at hz h0.out)
      have q1c:=Lib.hid (kp_at hz h1.out)
      have q2c:=Lib.hid (kp_at hz h2.out)
      have q3c:=Lib.hid (kp_at hz h3.out)
      have hz':=Lib.hid hz
      clear hW hz cb0 cb1
      refine (q0c.out _).mono ?_
      rintro r w' ⟨rfl,x1,rfl⟩
      go_wp2_with (first|(go_at_call 211;with_reducible refine (q1c.out _).mono ?_;rintro r w' ⟨rfl,x,rfl⟩)|(go_at_call 211;with_reducible refine (q2c.out _).mono ?_;rintro r w' ⟨rfl,x,rfl⟩)|(go_at_call 212;with_reducible refine (q3c.out _).mono ?_;rintro r w' ⟨rfl,x,rfl⟩))
      go_ret
      exact⟨rb hF.out,pp hz'.out⟩
     case pos =>
      have hF:=Lib.hid (show (true)=R by first | exact hR|(rw [← hR];simp [q1]))
      clear hR
      have h0:=Lib.hid h0
      have h1:=Lib.hid h1
      have h2:=Lib.hid h2
      have h3:=Lib.hid h3
      go_enter Tryz.func187,Tryz.ntmps187
      go_wp2_with fail
      obtain⟨W,yy,hW,⟨z,hz⟩,cb0,cb1⟩:=box2n V _ _ 215 45
      rw [hW]
      have c0_0:=cb0 0 _ rfl
      have c0_1:=cb0 1 _ rfl
      have c0_2:=cb0 2 _ rfl
      have c0_3:=cb0 3 _ rfl
      have c0_4:=cb0 4 _ rfl
      have c0_5:=cb0 5 _ rfl
      have c1_0:=cb1 0 _ rfl
      have c1_1:=cb1 1 _ rfl
      have c1_2:=cb1 2 _ rfl
      have c1_3:=cb1 3 _ rfl
      have c1_4:=cb1 4 _ rfl
      have c1_5:=cb1 5 _ rfl
      have c1_6:=cb1 6 _ rfl
      have c1_7:=cb1 7 _ rfl
      have c1_8:=cb1 8 _ rfl
      have q0c:=Lib.hid (kp_at hz h0.out)
      have q1c:=Lib.hid (kp_at hz h1.out)
      have q2c:=Lib.hid (kp_at hz h2.out)
      have q3c:=Lib.hid (kp_at hz h3.out)
      have hz':=Lib.hid hz
      clear hW hz cb0 cb1
      refine (q0c.out _).mono ?_
      rintro r w' ⟨rfl,x1,rfl⟩
      go_wp2_with (first|(go_at_call 211;with_reducible refine (q1c.out _).mono ?_;rintro r w' ⟨rfl,x,rfl⟩)|(go_at_call 211;with_reducible refine (q2c.out _).mono ?_;rintro r w' ⟨rfl,x,rfl⟩)|(go_at_call 212;with_reducible refine (q3c.out _).mono ?_;rintro r w' ⟨rfl,x,rfl⟩))
      go_ret
      exact⟨rb hF.out,pp hz'.out⟩
set_option maxRecDepth 100000 in
set_option maxHeartbeats 8000000 in
theorem fits_b (fl fs:Bool) (fh fn:Int) (a0:Int) (a1:Int) (a2:Int) (a3:Int) (a4:ByteArray) (a5:ByteArray) (a6:Int) (a7:Int) (a8p:Option Addr) (a8n:Nat) (a8c:Nat) (s0:Bool) (s1:Bool) (s2:Bool) (s3:Bool) (w:World) (hn2:¬ a8n=2)
  (h0:Kp Tryz.prog w 210 #[.agg #[.int .i64 a1,.int .u64 a2,.int .u64 a3],.bool fl] (.bool s0))
  (h1:Kp Tryz.prog w 211 #[.string a4,.int .u8 fh] (.bool s1))
  (h2:Kp Tryz.prog w 211 #[.string a5,.int .u8 fn] (.bool s2))
  (h3:Kp Tryz.prog w 212 #[.int .i64 a6,.int .i64 a7,.bool fs] (.bool s3)) :
  Kp Tryz.prog w 187 #[.agg #[.bool fl,.bool fs,.int .u8 fh,.int .u8 fn,.int .i64 2,.bool true],.agg #[.int .u8 a0,.int .i64 a1,.int .u64 a2,.int .u64 a3,.string a4,.string a5,.int .i64 a6,.int .i64 a7,.slice a8p a8n a8c]] (.bool (false)):=by
 intro y0
 have h0:=h0.up y0
 have h1:=h1.up y0
 have h2:=h2.up y0
 have h3:=h3.up y0
 obtain⟨V,hV⟩:∃ V,plus w y0=V:=⟨_,rfl⟩
 rw [hV] at h0 h1 h2 h3 ⊢
 clear hV
 have hn3:((a8n:Int) == 2)=false:=by first|(simp;done)|(simp;omega)
 obtain⟨R,hR⟩:∃ R,(false)=R:=⟨_,rfl⟩
 rw [hR]
 cases s0
 case false =>
  have hF:=Lib.hid (show (false)=R by first | exact hR|(rw [← hR];simp))
  clear hR
  clear h1 h2 h3
  have h0:=Lib.hid h0
  go_enter Tryz.func187,Tryz.ntmps187
  go_wp2_with fail
  obtain⟨W,yy,hW,⟨z,hz⟩,cb0,cb1⟩:=box2n V _ _ 215 45
  rw [hW]
  have c0_0:=cb0 0 _ rfl
  have c0_1:=cb0 1 _ rfl
  have c0_2:=cb0 2 _ rfl
  have c0_3:=cb0 3 _ rfl
  have c0_4:=cb0 4 _ rfl
  have c0_5:=cb0 5 _ rfl
  have c1_0:=cb1 0 _ rfl
  have c1_1:=cb1 1 _ rfl
  have c1_2:=cb1 2 _ rfl
  have c1_3:=cb1 3 _ rfl
  have c1_4:=cb1 4 _ rfl
  have c1_5:=cb1 5 _ rfl
  have c1_6:=cb1 6 _ rfl
  have c1_7:=cb1 7 _ rfl
  have c1_8:=cb1 8 _ rfl
  have q0c:=Lib.hid (kp_at hz h0.out)
  have hz':=Lib.hid hz
  clear hW hz cb0 cb1
  refine (q0c.out _).mono ?_
  rintro r w' ⟨rfl,x1,rfl⟩
  go_wp2_with fail
  go_ret
  exact⟨rb hF.out,pp hz'.out⟩
 case true =>
  cases s1
  case false =>
   have hF:=Lib.hid (show (false)=R by first | exact hR|(rw [← hR];simp))
   clear hR
   clear h2 h3
   have h0:=Lib.hid h0
   have h1:=Lib.hid h1
   go_enter Tryz.func187,Tryz.ntmps187
   go_wp2_with fail
   obtain⟨W,yy,hW,⟨z,hz⟩,cb0,cb1⟩:=box2n V _ _ 215 45
   rw [hW]
   have c0_0:=cb0 0 _ rfl
   have c0_1:=cb0 1 _ rfl
   have c0_2:=cb0 2 _ rfl
   have c0_3:=cb0 3 _ rfl
   have c0_4:=cb0 4 _ rfl
   have c0_5:=cb0 5 _ rfl
   have c1_0:=cb1 0 _ rfl
   have c1_1:=cb1 1 _ rfl
   have c1_2:=cb1 2 _ rfl
   have c1_3:=cb1 3 _ rfl
   have c1_4:=cb1 4 _ rfl
   have c1_5:=cb1 5 _ rfl
   have c1_6:=cb1 6 _ rfl
   have c1_7:=cb1 7 _ rfl
   have c1_8:=cb1 8 _ rfl
   have q0c:=Lib.hid (kp_at hz h0.out)
   have q1c:=Lib.hid (kp_at hz h1.out)
   have hz':=Lib.hid hz
   clear hW hz cb0 cb1
   refine (q0c.out _).mono ?_
   rintro r w' ⟨rfl,x1,rfl⟩
   go_wp2_with (first|(go_at_call 211;with_reducible refine (q1c.out _).mono ?_;rintro r w' ⟨rfl,x,rfl⟩))
   go_ret
   exact⟨rb hF.out,pp hz'.out⟩
  case true =>
   cases s2
   case false =>
    have hF:=Lib.hid (show (false)=R by first | exact hR|(rw [← hR];simp))
    clear hR
    clear h3
    have h0:=Lib.hid h0
    have h1:=Lib.hid h1
    have h2:=Lib.hid h2
    go_enter Tryz.func187,Tryz.ntmps187
    go_wp2_with fail
    obtain⟨W,yy,hW,⟨z,hz⟩,cb0,cb1⟩:=box2n V _ _ 215 45
    rw [hW]
    have c0_0:=cb0 0 _ rfl
    have c0_1:=cb0 1 _ rfl
    have c0_2:=cb0 2 _ rfl
    have c0_3:=cb0 3 _ rfl
    have c0_4:=cb0 4 _ rfl
    have c0_5:=cb0 5 _ rfl
    have c1_0:=cb1 0 _ rfl
    have c1_1:=cb1 1 _ rfl
    have c1_2:=cb1 2 _ rfl
    have c1_3:=cb1 3 _ rfl
    have c1_4:=cb1 4 _ rfl
    have c1_5:=cb1 5 _ rfl
    have c1_6:=cb1 6 _ rfl
    have c1_7:=cb1 7 _ rfl
    have c1_8:=cb1 8 _ rfl
    have q0c:=Lib.hid (kp_at hz h0.out)
    have q1c:=Lib.hid (kp_at hz h1.out)
    have q2c:=Lib.hid (kp_at hz h2.out)
    have hz':=Lib.hid hz
    clear hW hz cb0 cb1
    refine (q0c.out _).mono ?_
    rintro r w' ⟨rfl,x1,rfl⟩
    go_wp2_with (first|(go_at_call 211;with_reducible refine (q1c.out _).mono ?_;rintro r w' ⟨rfl,x,rfl⟩)|(go_at_call 211;with_reducible refine (q2c.out _).mono ?_;rintro r w' ⟨rfl,x,rfl⟩))
    go_ret
    exact⟨rb hF.out,pp hz'.out⟩
   case true =>
    cases s3
    case false =>
     have hF:=Lib.hid (show (false)=R by first | exact hR|(rw [← hR];simp))
     clear hR
     have h0:=Lib.hid h0
     have h1:=Lib.hid h1
     have h2:=Lib.hid h2
     have h3:=Lib.hid h3
     go_enter Tryz.func187,Tryz.ntmps187
     go_wp2_with fail
     obtain⟨W,yy,hW,⟨z,hz⟩,cb0,cb1⟩:=box2n V _ _ 215 45
     rw [hW]
     have c0_0:=cb0 0 _ rfl
     have c0_1:=cb0 1 _ rfl
     have c0_2:=cb0 2 _ rfl
     have c0_3:=cb0 3 _ rfl
     have c0_4:=cb0 4 _ rfl
     have c0_5:=cb0 5 _ rfl
     have c1_0:=cb1 0 _ rfl
     have c1_1:=cb1 1 _ rfl
     have c1_2:=cb1 2 _ rfl
     have c1_3:=cb1 3 _ rfl
     have c1_4:=cb1 4 _ rfl
     have c1_5:=cb1 5 _ rfl
     have c1_6:=cb1 6 _ rfl
     have c1_7:=cb1 7 _ rfl
     have c1_8:=cb1 8 _ rfl
     have q0c:=Lib.hid (kp_at hz h0.out)
     have q1c:=Lib.hid (kp_at hz h1.out)
     have q2c:=Lib.hid (kp_at hz h2.out)
     have q3c:=Lib.hid (kp_at hz h3.out)
     have hz':=Lib.hid hz
     clear hW hz cb0 cb1
     refine (q0c.out _).mono ?_
     rintro r w' ⟨rfl,x1,rfl⟩
     go_wp2_with (first|(go_at_call 211;with_reducible refine (q1c.out _).mono ?_;rintro r w' ⟨rfl,x,rfl⟩)|(go_at_call 211;with_reducible refine (q2c.out _).mono ?_;rintro r w' ⟨rfl,x,rfl⟩)|(go_at_call 212;with_reducible refine (q3c.out _).mono ?_;rintro r w' ⟨rfl,x,rfl⟩))
     go_ret
     exact⟨rb hF.out,pp hz'.out⟩
    case true =>
     by_cases q1:((a8n:Int) == 2)=true
     case neg =>
      have q1:((a8n:Int) == 2)=false:=by simpa using q1
      have hF:=Lib.hid (show (false)=R by first | exact hR|(rw [← hR];simp [q1]))
      clear hR
      have h0:=Lib.hid h0
      have h1:=Lib.hid h1
      have h2:=Lib.hid h2
      have h3:=Lib.hid h3
      go_enter Tryz.func187,Tryz.ntmps187
      go_wp2_with fail
      obtain⟨W,yy,hW,⟨z,hz⟩,cb0,cb1⟩:=box2n V _ _ 215 45
      rw [hW]
      have c0_0:=cb0 0 _ rfl
      have c0_1:=cb0 1 _ rfl
      have c0_2:=cb0 2 _ rfl
      have c0_3:=cb0 3 _ rfl
      have c0_4:=cb0 4 _ rfl
      have c0_5:=cb0 5 _ rfl
      have c1_0:=cb1 0 _ rfl
      have c1_1:=cb1 1 _ rfl
      have c1_2:=cb1 2 _ rfl
      have c1_3:=cb1 3 _ rfl
      have c1_4:=cb1 4 _ rfl
      have c1_5:=cb1 5 _ rfl
      have c1_6:=cb1 6 _ rfl
      have c1_7:=cb1 7 _ rfl
      have c1_8:=cb1 8 _ rfl
      have q0c:=Lib.hid (kp_at hz h0.out)
      have q1c:=Lib.hid (kp_at hz h1.out)
      have q2c:=Lib.hid (kp_at hz h2.out)
      have q3c:=Lib.hid (kp_at hz h3.out)
      have hz':=Lib.hid hz
      clear hW hz cb0 cb1
      refine (q0c.out _).mono ?_
      rintro r w' ⟨rfl,x1,rfl⟩
      go_wp2_with (first|(go_at_call 211;with_reducible refine (q1c.out _).mono ?_;rintro r w' ⟨rfl,x,rfl⟩)|(go_at_call 211;with_reducible refine (q2c.out _).mono ?_;rintro r w' ⟨rfl,x,rfl⟩)|(go_at_call 212;with_reducible refine (q3c.out _).mono ?_;rintro r w' ⟨rfl,x,rfl⟩))
      go_ret
      exact⟨rb hF.out,pp hz'.out⟩
     case pos =>
      have hF:=Lib.hid (show (false)=R by first | exact hR|(rw [← hR];simp [q1]))
      clear hR
      have h0:=Lib.hid h0
      have h1:=Lib.hid h1
      have h2:=Lib.hid h2
      have h3:=Lib.hid h3
      go_enter Tryz.func187,Tryz.ntmps187
      go_wp2_with fail
      obtain⟨W,yy,hW,⟨z,hz⟩,cb0,cb1⟩:=box2n V _ _ 215 45
      rw [hW]
      have c0_0:=cb0 0 _ rfl
      have c0_1:=cb0 1 _ rfl
      have c0_2:=cb0 2 _ rfl
      have c0_3:=cb0 3 _ rfl
      have c0_4:=cb0 4 _ rfl
      have c0_5:=cb0 5 _ rfl
      have c1_0:=cb1 0 _ rfl
      have c1_1:=cb1 1 _ rfl
      have c1_2:=cb1 2 _ rfl
      have c1_3:=cb1 3 _ rfl
      have c1_4:=cb1 4 _ rfl
      have c1_5:=cb1 5 _ rfl
      have c1_6:=cb1 6 _ rfl
      have c1_7:=cb1 7 _ rfl
      have c1_8:=cb1 8 _ rfl
      have q0c:=Lib.hid (kp_at hz h0.out)
      have q1c:=Lib.hid (kp_at hz h1.out)
      have q2c:=Lib.hid (kp_at hz h2.out)
      have q3c:=Lib.hid (kp_at hz h3.out)
      have hz':=Lib.hid hz
      clear hW hz cb0 cb1
      refine (q0c.out _).mono ?_
      rintro r w' ⟨rfl,x1,rfl⟩
      go_wp2_with (first|(go_at_call 211;with_reducible refine (q1c.out _).mono ?_;rintro r w' ⟨rfl,x,rfl⟩)|(go_at_call 211;with_reducible refine (q2c.out _).mono ?_;rintro r w' ⟨rfl,x,rfl⟩)|(go_at_call 212;with_reducible refine (q3c.out _).mono ?_;rintro r w' ⟨rfl,x,rfl⟩))
      go_ret
      exact⟨rb hF.out,pp hz'.out⟩
set_option maxRecDepth 100000 in
set_option maxHeartbeats 8000000 in
theorem fits_c (fl fs:Bool) (fh fn:Int) (a0:Int) (a1:Int) (a2:Int) (a3:Int) (a4:ByteArray) (a5:ByteArray) (a6:Int) (a7:Int) (pa:Addr) (a8c:Nat) (b0:Int) (b1:Int) (b2:Int) (b3:Int) (b4:ByteArray) (b5:ByteArray) (b6:Int) (b7:Int) (b8p:Option Addr) (b8n:Nat) (b8c:Nat) (s0:Bool) (s1:Bool) (s2:Bool) (s3:Bool) (s4:Bool) (w:World) (hx:CellsAt w (pa.add 9) [.int .u8 b0,.int .i64 b1,.int .u64 b2,.int .u64 b3,.string b4,.string b5,.int .i64 b6,.int .i64 b7,.slice b8p b8n b8c])
  (h0:Kp Tryz.prog w 210 #[.agg #[.int .i64 a1,.int .u64 a2,.int .u64 a3],.bool fl] (.bool s0))
  (h1:Kp Tryz.prog w 211 #[.string a4,.int .u8 fh] (.bool s1))
  (h2:Kp Tryz.prog w 211 #[.string a5,.int .u8 fn] (.bool s2))
  (h3:Kp Tryz.prog w 212 #[.int .i64 a6,.int .i64 a7,.bool fs] (.bool s3))
  (h4:Kp Tryz.prog w 213 #[.agg #[.int .u8 b0,.int .i64 b1,.int .u64 b2,.int .u64 b3,.string b4,.string b5,.int .i64 b6,.int .i64 b7,.slice b8p b8n b8c]] (.bool s4)) :
  Kp Tryz.prog w 187 #[.agg #[.bool fl,.bool fs,.int .u8 fh,.int .u8 fn,.int .i64 2,.bool true],.agg #[.int .u8 a0,.int .i64 a1,.int .u64 a2,.int .u64 a3,.string a4,.string a5,.int .i64 a6,.int .i64 a7,.slice (some pa) 2 a8c]] (.bool (((s0) && ((s1) && ((s2) && ((s3) && (s4))))))):=by
 intro y0
 have h0:=h0.up y0
 have h1:=h1.up y0
 have h2:=h2.up y0
 have h3:=h3.up y0
 have h4:=h4.up y0
 have hx:=hx.plus y0
 obtain⟨V,hV⟩:∃ V,plus w y0=V:=⟨_,rfl⟩
 rw [hV] at h0 h1 h2 h3 h4 hx ⊢
 clear hV
 obtain⟨R,hR⟩:∃ R,(((s0) && ((s1) && ((s2) && ((s3) && (s4))))))=R:=⟨_,rfl⟩
 rw [hR]
 cases s0
 case false =>
  have hF:=Lib.hid (show (false)=R by first | exact hR|(rw [← hR];simp))
  clear hR
  clear h1 h2 h3 h4
  have h0:=Lib.hid h0
  go_enter Tryz.func187,Tryz.ntmps187
  go_wp2_with fail
  obtain⟨W,yy,hW,⟨z,hz⟩,cb0,cb1⟩:=box2n V _ _ 215 45
  rw [hW]
  have c0_0:=cb0 0 _ rfl
  have c0_1:=cb0 1 _ rfl
  have c0_2:=cb0 2 _ rfl
  have c0_3:=cb0 3 _ rfl
  have c0_4:=cb0 4 _ rfl
  have c0_5:=cb0 5 _ rfl
  have c1_0:=cb1 0 _ rfl
  have c1_1:=cb1 1 _ rfl
  have c1_2:=cb1 2 _ rfl
  have c1_3:=cb1 3 _ rfl
  have c1_4:=cb1 4 _ rfl
  have c1_5:=cb1 5 _ rfl
  have c1_6:=cb1 6 _ rfl
  have c1_7:=cb1 7 _ rfl
  have c1_8:=cb1 8 _ rfl
  have q0c:=Lib.hid (kp_at hz h0.out)
  have d0:∀ y,(plus W y).cell? ⟨pa.block,pa.off+9,none⟩=some (.int .u8 b0):=fun y=>((cellsat_at hz hx).plus y).c0 _ rfl
  have d1:∀ y,(plus W y).cell? ⟨pa.block,pa.off+9+1,none⟩=some (.int .i64 b1):=fun y=>((cellsat_at hz hx).plus y).cs 0 _ rfl
  have d2:∀ y,(plus W y).cell? ⟨pa.block,pa.off+9+2,none⟩=some (.int .u64 b2):=fun y=>((cellsat_at hz hx).plus y).cs 1 _ rfl
  have d3:∀ y,(plus W y).cell? ⟨pa.block,pa.off+9+3,none⟩=some (.int .u64 b3):=fun y=>((cellsat_at hz hx).plus y).cs 2 _ rfl
  have d4:∀ y,(plus W y).cell? ⟨pa.block,pa.off+9+4,none⟩=some (.string b4):=fun y=>((cellsat_at hz hx).plus y).cs 3 _ rfl
  have d5:∀ y,(plus W y).cell? ⟨pa.block,pa.off+9+5,none⟩=some (.string b5):=fun y=>((cellsat_at hz hx).plus y).cs 4 _ rfl
  have d6:∀ y,(plus W y).cell? ⟨pa.block,pa.off+9+6,none⟩=some (.int .i64 b6):=fun y=>((cellsat_at hz hx).plus y).cs 5 _ rfl
  have d7:∀ y,(plus W y).cell? ⟨pa.block,pa.off+9+7,none⟩=some (.int .i64 b7):=fun y=>((cellsat_at hz hx).plus y).cs 6 _ rfl
  have d8:∀ y,(plus W y).cell? ⟨pa.block,pa.off+9+8,none⟩=some (.slice b8p b8n b8c):=fun y=>((cellsat_at hz hx).plus y).cs 7 _ rfl
  have hz':=Lib.hid hz
  clear hW hz cb0 cb1
  refine (q0c.out _).mono ?_
  rintro r w' ⟨rfl,x1,rfl⟩
  go_wp2_with fail
  go_ret
  exact⟨rb hF.out,pp hz'.out⟩
 case true =>
  cases s1
  case false =>
   have hF:=Lib.hid (show (false)=R by first | exact hR|(rw [← hR];simp))
   clear hR
   clear h2 h3 h4
   have h0:=Lib.hid h0
   have h1:=Lib.hid h1
   go_enter Tryz.func187,Tryz.ntmps187
   go_wp2_with fail
   obtain⟨W,yy,hW,⟨z,hz⟩,cb0,cb1⟩:=box2n V _ _ 215 45
   rw [hW]
   have c0_0:=cb0 0 _ rfl
   have c0_1:=cb0 1 _ rfl
   have c0_2:=cb0 2 _ rfl
   have c0_3:=cb0 3 _ rfl
   have c0_4:=cb0 4 _ rfl
   have c0_5:=cb0 5 _ rfl
   have c1_0:=cb1 0 _ rfl
   have c1_1:=cb1 1 _ rfl
   have c1_2:=cb1 2 _ rfl
   have c1_3:=cb1 3 _ rfl
   have c1_4:=cb1 4 _ rfl
   have c1_5:=cb1 5 _ rfl
   have c1_6:=cb1 6 _ rfl
   have c1_7:=cb1 7 _ rfl
   have c1_8:=cb1 8 _ rfl
   have q0c:=Lib.hid (kp_at hz h0.out)
   have q1c:=Lib.hid (kp_at hz h1.out)
   have d0:∀ y,(plus W y).cell? ⟨pa.block,pa.off+9,none⟩=some (.int .u8 b0):=fun y=>((cellsat_at hz hx).plus y).c0 _ rfl
   have d1:∀ y,(plus W y).cell? ⟨pa.block,pa.off+9+1,none⟩=some (.int .i64 b1):=fun y=>((cellsat_at hz hx).plus y).cs 0 _ rfl
   have d2:∀ y,(plus W y).cell? ⟨pa.block,pa.off+9+2,none⟩=some (.int .u64 b2):=fun y=>((cellsat_at hz hx).plus y).cs 1 _ rfl
   have d3:∀ y,(plus W y).cell? ⟨pa.block,pa.off+9+3,none⟩=some (.int .u64 b3):=fun y=>((cellsat_at hz hx).plus y).cs 2 _ rfl
   have d4:∀ y,(plus W y).cell? ⟨pa.block,pa.off+9+4,none⟩=some (.string b4):=fun y=>((cellsat_at hz hx).plus y).cs 3 _ rfl
   have d5:∀ y,(plus W y).cell? ⟨pa.block,pa.off+9+5,none⟩=some (.string b5):=fun y=>((cellsat_at hz hx).plus y).cs 4 _ rfl
   have d6:∀ y,(plus W y).cell? ⟨pa.block,pa.off+9+6,none⟩=some (.int .i64 b6):=fun y=>((cellsat_at hz hx).plus y).cs 5 _ rfl
   have d7:∀ y,(plus W y).cell? ⟨pa.block,pa.off+9+7,none⟩=some (.int .i64 b7):=fun y=>((cellsat_at hz hx).plus y).cs 6 _ rfl
   have d8:∀ y,(plus W y).cell? ⟨pa.block,pa.off+9+8,none⟩=some (.slice b8p b8n b8c):=fun y=>((cellsat_at hz hx).plus y).cs 7 _ rfl
   have hz':=Lib.hid hz
   clear hW hz cb0 cb1
   refine (q0c.out _).mono ?_
   rintro r w' ⟨rfl,x1,rfl⟩
   go_wp2_with (first|(go_at_call 211;with_reducible refine (q1c.out _).mono ?_;rintro r w' ⟨rfl,x,rfl⟩))
   go_ret
   exact⟨rb hF.out,pp hz'.out⟩
  case true =>
   cases s2
   case false =>
    have hF:=Lib.hid (show (false)=R by first | exact hR|(rw [← hR];simp))
    clear hR
    clear h3 h4
    have h0:=Lib.hid h0
    have h1:=Lib.hid h1
    have h2:=Lib.hid h2
    go_enter Tryz.func187,Tryz.ntmps187
    go_wp2_with fail
    obtain⟨W,yy,hW,⟨z,hz⟩,cb0,cb1⟩:=box2n V _ _ 215 45
    rw [hW]
    have c0_0:=cb0 0 _ rfl
    have c0_1:=cb0 1 _ rfl
    have c0_2:=cb0 2 _ rfl
    have c0_3:=cb0 3 _ rfl
    have c0_4:=cb0 4 _ rfl
    have c0_5:=cb0 5 _ rfl
    have c1_0:=cb1 0 _ rfl
    have c1_1:=cb1 1 _ rfl
    have c1_2:=cb1 2 _ rfl
    have c1_3:=cb1 3 _ rfl
    have c1_4:=cb1 4 _ rfl
    have c1_5:=cb1 5 _ rfl
    have c1_6:=cb1 6 _ rfl
    have c1_7:=cb1 7 _ rfl
    have c1_8:=cb1 8 _ rfl
    have q0c:=Lib.hid (kp_at hz h0.out)
    have q1c:=Lib.hid (kp_at hz h1.out)
    have q2c:=Lib.hid (kp_at hz h2.out)
    have d0:∀ y,(plus W y).cell? ⟨pa.block,pa.off+9,none⟩=some (.int .u8 b0):=fun y=>((cellsat_at hz hx).plus y).c0 _ rfl
    have d1:∀ y,(plus W y).cell? ⟨pa.block,pa.off+9+1,none⟩=some (.int .i64 b1):=fun y=>((cellsat_at hz hx).plus y).cs 0 _ rfl
    have d2:∀ y,(plus W y).cell? ⟨pa.block,pa.off+9+2,none⟩=some (.int .u64 b2):=fun y=>((cellsat_at hz hx).plus y).cs 1 _ rfl
    have d3:∀ y,(plus W y).cell? ⟨pa.block,pa.off+9+3,none⟩=some (.int .u64 b3):=fun y=>((cellsat_at hz hx).plus y).cs 2 _ rfl
    have d4:∀ y,(plus W y).cell? ⟨pa.block,pa.off+9+4,none⟩=some (.string b4):=fun y=>((cellsat_at hz hx).plus y).cs 3 _ rfl
    have d5:∀ y,(plus W y).cell? ⟨pa.block,pa.off+9+5,none⟩=some (.string b5):=fun y=>((cellsat_at hz hx).plus y).cs 4 _ rfl
    have d6:∀ y,(plus W y).cell? ⟨pa.block,pa.off+9+6,none⟩=some (.int .i64 b6):=fun y=>((cellsat_at hz hx).plus y).cs 5 _ rfl
    have d7:∀ y,(plus W y).cell? ⟨pa.block,pa.off+9+7,none⟩=some (.int .i64 b7):=fun y=>((cellsat_at hz hx).plus y).cs 6 _ rfl
    have d8:∀ y,(plus W y).cell? ⟨pa.block,pa.off+9+8,none⟩=some (.slice b8p b8n b8c):=fun y=>((cellsat_at hz hx).plus y).cs 7 _ rfl
    have hz':=Lib.hid hz
    clear hW hz cb0 cb1
    refine (q0c.out _).mono ?_
    rintro r w' ⟨rfl,x1,rfl⟩
    go_wp2_with (first|(go_at_call 211;with_reducible refine (q1c.out _).mono ?_;rintro r w' ⟨rfl,x,rfl⟩)|(go_at_call 211;with_reducible refine (q2c.out _).mono ?_;rintro r w' ⟨rfl,x,rfl⟩))
    go_ret
    exact⟨rb hF.out,pp hz'.out⟩
   case true =>
    cases s3
    case false =>
     have hF:=Lib.hid (show (false)=R by first | exact hR|(rw [← hR];simp))
     clear hR
     clear h4
     have h0:=Lib.hid h0
     have h1:=Lib.hid h1
     have h2:=Lib.hid h2
     have h3:=Lib.hid h3
     go_enter Tryz.func187,Tryz.ntmps187
     go_wp2_with fail
     obtain⟨W,yy,hW,⟨z,hz⟩,cb0,cb1⟩:=box2n V _ _ 215 45
     rw [hW]
     have c0_0:=cb0 0 _ rfl
     have c0_1:=cb0 1 _ rfl
     have c0_2:=cb0 2 _ rfl
     have c0_3:=cb0 3 _ rfl
     have c0_4:=cb0 4 _ rfl
     have c0_5:=cb0 5 _ rfl
     have c1_0:=cb1 0 _ rfl
     have c1_1:=cb1 1 _ rfl
     have c1_2:=cb1 2 _ rfl
     have c1_3:=cb1 3 _ rfl
     have c1_4:=cb1 4 _ rfl
     have c1_5:=cb1 5 _ rfl
     have c1_6:=cb1 6 _ rfl
     have c1_7:=cb1 7 _ rfl
     have c1_8:=cb1 8 _ rfl
     have q0c:=Lib.hid (kp_at hz h0.out)
     have q1c:=Lib.hid (kp_at hz h1.out)
     have q2c:=Lib.hid (kp_at hz h2.out)
     have q3c:=Lib.hid (kp_at hz h3.out)
     have d0:∀ y,(plus W y).cell? ⟨pa.block,pa.off+9,none⟩=some (.int .u8 b0):=fun y=>((cellsat_at hz hx).plus y).c0 _ rfl
     have d1:∀ y,(plus W y).cell? ⟨pa.block,pa.off+9+1,none⟩=some (.int .i64 b1):=fun y=>((cellsat_at hz hx).plus y).cs 0 _ rfl
     have d2:∀ y,(plus W y).cell? ⟨pa.block,pa.off+9+2,none⟩=some (.int .u64 b2):=fun y=>((cellsat_at hz hx).plus y).cs 1 _ rfl
     have d3:∀ y,(plus W y).cell? ⟨pa.block,pa.off+9+3,none⟩=some (.int .u64 b3):=fun y=>((cellsat_at hz hx).plus y).cs 2 _ rfl
     have d4:∀ y,(plus W y).cell? ⟨pa.block,pa.off+9+4,none⟩=some (.string b4):=fun y=>((cellsat_at hz hx).plus y).cs 3 _ rfl
     have d5:∀ y,(plus W y).cell? ⟨pa.block,pa.off+9+5,none⟩=some (.string b5):=fun y=>((cellsat_at hz hx).plus y).cs 4 _ rfl
     have d6:∀ y,(plus W y).cell? ⟨pa.block,pa.off+9+6,none⟩=some (.int .i64 b6):=fun y=>((cellsat_at hz hx).plus y).cs 5 _ rfl
     have d7:∀ y,(plus W y).cell? ⟨pa.block,pa.off+9+7,none⟩=some (.int .i64 b7):=fun y=>((cellsat_at hz hx).plus y).cs 6 _ rfl
     have d8:∀ y,(plus W y).cell? ⟨pa.block,pa.off+9+8,none⟩=some (.slice b8p b8n b8c):=fun y=>((cellsat_at hz hx).plus y).cs 7 _ rfl
     have hz':=Lib.hid hz
     clear hW hz cb0 cb1
     refine (q0c.out _).mono ?_
     rintro r w' ⟨rfl,x1,rfl⟩
     go_wp2_with (first|(go_at_call 211;with_reducible refine (q1c.out _).mono ?_;rintro r w' ⟨rfl,x,rfl⟩)|(go_at_call 211;with_reducible refine (q2c.out _).mono ?_;rintro r w' ⟨rfl,x,rfl⟩)|(go_at_call 212;with_reducible refine (q3c.out _).mono ?_;rintro r w' ⟨rfl,x,rfl⟩))
     go_ret
     exact⟨rb hF.out,pp hz'.out⟩
    case true =>
     cases s4
     case false =>
      have hF:=Lib.hid (show (false)=R by first | exact hR|(rw [← hR];simp))
      clear hR
      have h0:=Lib.hid h0
      have h1:=Lib.hid h1
      have h2:=Lib.hid h2
      have h3:=Lib.hid h3
      have h4:=Lib.hid h4
      go_enter Tryz.func187,Tryz.ntmps187
      go_wp2_with fail
      obtain⟨W,yy,hW,⟨z,hz⟩,cb0,cb1⟩:=box2n V _ _ 215 45
      rw [hW]
      have c0_0:=cb0 0 _ rfl
      have c0_1:=cb0 1 _ rfl
      have c0_2:=cb0 2 _ rfl
      have c0_3:=cb0 3 _ rfl
      have c0_4:=cb0 4 _ rfl
      have c0_5:=cb0 5 _ rfl
      have c1_0:=cb1 0 _ rfl
      have c1_1:=cb1 1 _ rfl
      have c1_2:=cb1 2 _ rfl
      have c1_3:=cb1 3 _ rfl
      have c1_4:=cb1 4 _ rfl
      have c1_5:=cb1 5 _ rfl
      have c1_6:=cb1 6 _ rfl
      have c1_7:=cb1 7 _ rfl
      have c1_8:=cb1 8 _ rfl
      have q0c:=Lib.hid (kp_at hz h0.out)
      have q1c:=Lib.hid (kp_at hz h1.out)
      have q2c:=Lib.hid (kp_at hz h2.out)
      have q3c:=Lib.hid (kp_at hz h3.out)
      have q4c:=Lib.hid (kp_at hz h4.out)
      have d0:∀ y,(plus W y).cell? ⟨pa.block,pa.off+9,none⟩=some (.int .u8 b0):=fun y=>((cellsat_at hz hx).plus y).c0 _ rfl
      have d1:∀ y,(plus W y).cell? ⟨pa.block,pa.off+9+1,none⟩=some (.int .i64 b1):=fun y=>((cellsat_at hz hx).plus y).cs 0 _ rfl
      have d2:∀ y,(plus W y).cell? ⟨pa.block,pa.off+9+2,none⟩=some (.int .u64 b2):=fun y=>((cellsat_at hz hx).plus y).cs 1 _ rfl
      have d3:∀ y,(plus W y).cell? ⟨pa.block,pa.off+9+3,none⟩=some (.int .u64 b3):=fun y=>((cellsat_at hz hx).plus y).cs 2 _ rfl
      have d4:∀ y,(plus W y).cell? ⟨pa.block,pa.off+9+4,none⟩=some (.string b4):=fun y=>((cellsat_at hz hx).plus y).cs 3 _ rfl
      have d5:∀ y,(plus W y).cell? ⟨pa.block,pa.off+9+5,none⟩=some (.string b5):=fun y=>((cellsat_at hz hx).plus y).cs 4 _ rfl
      have d6:∀ y,(plus W y).cell? ⟨pa.block,pa.off+9+6,none⟩=some (.int .i64 b6):=fun y=>((cellsat_at hz hx).plus y).cs 5 _ rfl
      have d7:∀ y,(plus W y).cell? ⟨pa.block,pa.off+9+7,none⟩=some (.int .i64 b7):=fun y=>((cellsat_at hz hx).plus y).cs 6 _ rfl
      have d8:∀ y,(plus W y).cell? ⟨pa.block,pa.off+9+8,none⟩=some (.slice b8p b8n b8c):=fun y=>((cellsat_at hz hx).plus y).cs 7 _ rfl
      have hz':=Lib.hid hz
      clear hW hz cb0 cb1
      refine (q0c.out _).mono ?_
      rintro r w' ⟨rfl,x1,rfl⟩
      go_wp2_with (first|(go_at_call 211;with_reducible refine (q1c.out _).mono ?_;rintro r w' ⟨rfl,x,rfl⟩)|(go_at_call 211;with_reducible refine (q2c.out _).mono ?_;rintro r w' ⟨rfl,x,rfl⟩)|(go_at_call 212;with_reducible refine (q3c.out _).mono ?_;rintro r w' ⟨rfl,x,rfl⟩)|(go_at_call 213;with_reducible refine (q4c.out _).mono ?_;rintro r w' ⟨rfl,x,rfl⟩))
      go_ret
      exact⟨rb hF.out,pp hz'.out⟩
     case true =>
      have hF:=Lib.hid (show (true)=R by first | exact hR|(rw [← hR];simp))
      clear hR
      have h0:=Lib.hid h0
      have h1:=Lib.hid h1
      have h2:=Lib.hid h2
      have h3:=Lib.hid h3
      have h4:=Lib.hid h4
      go_enter Tryz.func187,Tryz.ntmps187
      go_wp2_with fail
      obtain⟨W,yy,hW,⟨z,hz⟩,cb0,cb1⟩:=box2n V _ _ 215 45
      rw [hW]
      have c0_0:=cb0 0 _ rfl
      have c0_1:=cb0 1 _ rfl
      have c0_2:=cb0 2 _ rfl
      have c0_3:=cb0 3 _ rfl
      have c0_4:=cb0 4 _ rfl
      have c0_5:=cb0 5 _ rfl
      have c1_0:=cb1 0 _ rfl
      have c1_1:=cb1 1 _ rfl
      have c1_2:=cb1 2 _ rfl
      have c1_3:=cb1 3 _ rfl
      have c1_4:=cb1 4 _ rfl
      have c1_5:=cb1 5 _ rfl
      have c1_6:=cb1 6 _ rfl
      have c1_7:=cb1 7 _ rfl
      have c1_8:=cb1 8 _ rfl
      have q0c:=Lib.hid (kp_at hz h0.out)
      have q1c:=Lib.hid (kp_at hz h1.out)
      have q2c:=Lib.hid (kp_at hz h2.out)
      have q3c:=Lib.hid (kp_at hz h3.out)
      have q4c:=Lib.hid (kp_at hz h4.out)
      have d0:∀ y,(plus W y).cell? ⟨pa.block,pa.off+9,none⟩=some (.int .u8 b0):=fun y=>((cellsat_at hz hx).plus y).c0 _ rfl
      have d1:∀ y,(plus W y).cell? ⟨pa.block,pa.off+9+1,none⟩=some (.int .i64 b1):=fun y=>((cellsat_at hz hx).plus y).cs 0 _ rfl
      have d2:∀ y,(plus W y).cell? ⟨pa.block,pa.off+9+2,none⟩=some (.int .u64 b2):=fun y=>((cellsat_at hz hx).plus y).cs 1 _ rfl
      have d3:∀ y,(plus W y).cell? ⟨pa.block,pa.off+9+3,none⟩=some (.int .u64 b3):=fun y=>((cellsat_at hz hx).plus y).cs 2 _ rfl
      have d4:∀ y,(plus W y).cell? ⟨pa.block,pa.off+9+4,none⟩=some (.string b4):=fun y=>((cellsat_at hz hx).plus y).cs 3 _ rfl
      have d5:∀ y,(plus W y).cell? ⟨pa.block,pa.off+9+5,none⟩=some (.string b5):=fun y=>((cellsat_at hz hx).plus y).cs 4 _ rfl
      have d6:∀ y,(plus W y).cell? ⟨pa.block,pa.off+9+6,none⟩=some (.int .i64 b6):=fun y=>((cellsat_at hz hx).plus y).cs 5 _ rfl
      have d7:∀ y,(plus W y).cell? ⟨pa.block,pa.off+9+7,none⟩=some (.int .i64 b7):=fun y=>((cellsat_at hz hx).plus y).cs 6 _ rfl
      have d8:∀ y,(plus W y).cell? ⟨pa.block,pa.off+9+8,none⟩=some (.slice b8p b8n b8c):=fun y=>((cellsat_at hz hx).plus y).cs 7 _ rfl
      have hz':=Lib.hid hz
      clear hW hz cb0 cb1
      refine (q0c.out _).mono ?_
      rintro r w' ⟨rfl,x1,rfl⟩
      go_wp2_with (first|(go_at_call 211;with_reducible refine (q1c.out _).mono ?_;rintro r w' ⟨rfl,x,rfl⟩)|(go_at_call 211;with_reducible refine (q2c.out _).mono ?_;rintro r w' ⟨rfl,x,rfl⟩)|(go_at_call 212;with_reducible refine (q3c.out _).mono ?_;rintro r w' ⟨rfl,x,rfl⟩)|(go_at_call 213;with_reducible refine (q4c.out _).mono ?_;rintro r w' ⟨rfl,x,rfl⟩))
      go_ret
      exact⟨rb hF.out,pp hz'.out⟩
end Go.Proofs.YtobhijbncchpiaaGreat

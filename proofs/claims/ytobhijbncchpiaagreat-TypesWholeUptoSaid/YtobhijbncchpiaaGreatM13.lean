/-
  WHAT IS PROVED HERE: a part of the proof (made narrower and merged by program; the parts: Hi).
-/
import Derived.Test.YtobhijbncchpiaaGreatM12
namespace Go.Proofs.YtobhijbncchpiaaGreat
open Go.RowKit
set_option maxRecDepth 100000 in
set_option maxHeartbeats 8000000 in
theorem mayhdr_of (a0:ByteArray) (a1p:Option Addr) (a1n:Nat) (a1c:Nat) (s0:Bool) (s1:Bool) (w:World)
  (h0:Kp Tryz.prog w 65 #[.string a0] (.bool s0))
  (h1:Kp Tryz.prog w 55 #[.slice a1p a1n a1c,.int .i64 1,.int .i64 16,.func (.func 56) #[] #[]] (.bool s1)) :
  Kp Tryz.prog w 54 #[.agg #[.string a0,.slice a1p a1n a1c]] (.bool (((s0) && (s1)))):=by
 intro y0
 have h0:=h0.up y0
 have h1:=h1.up y0
 obtain⟨V,hV⟩:∃ V,plus w y0=V:=⟨_,rfl⟩
 rw [hV] at h0 h1 ⊢
 clear hV
 have hmf:∀ (fn:Fn) (first cap:Array Value) (w:World),(Instr.makeFunc fn first cap).run Tryz.prog w=.ok (.func fn first cap) w:=fun _ _ _ _=>rfl
 obtain⟨R,hR⟩:∃ R,(((s0) && (s1)))=R:=⟨_,rfl⟩
 rw [hR]
 cases s0
 case false =>
  have hF:=Lib.hid (show (false)=R by first | exact hR|(rw [← hR];simp))
  clear hR
  clear h1
  have h0:=Lib.hid h0
  go_enter Tryz.func54,Tryz.ntmps54
  go_wp2_with fail
  obtain⟨W,yy,hW,⟨z,hz⟩,cb0⟩:=box1n V _ 66
  rw [hW]
  have c0_0:=cb0 0 _ rfl
  have c0_1:=cb0 1 _ rfl
  have q0c:=Lib.hid (kp_at hz h0.out)
  have hz':=Lib.hid hz
  clear hW hz cb0
  refine (q0c.out _).mono ?_
  rintro r w' ⟨rfl,x1,rfl⟩
  go_wp2_with fail
  go_ret
  exact⟨rb hF.out,pp hz'.out⟩
 case true =>
  cases s1
  case false =>
   have hF:=Lib.hid (show (false)=R by first | exact hR|(rw [← hR];simp))
   clear hR
   have h0:=Lib.hid h0
   have h1:=Lib.hid h1
   go_enter Tryz.func54,Tryz.ntmps54
   go_wp2_with fail
   obtain⟨W,yy,hW,⟨z,hz⟩,cb0⟩:=box1n V _ 66
   rw [hW]
   have c0_0:=cb0 0 _ rfl
   have c0_1:=cb0 1 _ rfl
   have q0c:=Lib.hid (kp_at hz h0.out)
   have q1c:=Lib.hid (kp_at hz h1.out)
   have hz':=Lib.hid hz
   clear hW hz cb0
   refine (q0c.out _).mono ?_
   rintro r w' ⟨rfl,x1,rfl⟩
   go_wp2_with (first|(go_at_call 55;with_reducible refine (q1c.out _).mono ?_;rintro r w' ⟨rfl,x,rfl⟩))
   go_ret
   exact⟨rb hF.out,pp hz'.out⟩
  case true =>
   have hF:=Lib.hid (show (true)=R by first | exact hR|(rw [← hR];simp))
   clear hR
   have h0:=Lib.hid h0
   have h1:=Lib.hid h1
   go_enter Tryz.func54,Tryz.ntmps54
   go_wp2_with fail
   obtain⟨W,yy,hW,⟨z,hz⟩,cb0⟩:=box1n V _ 66
   rw [hW]
   have c0_0:=cb0 0 _ rfl
   have c0_1:=cb0 1 _ rfl
   have q0c:=Lib.hid (kp_at hz h0.out)
   have q1c:=Lib.hid (kp_at hz h1.out)
   have hz':=Lib.hid hz
   clear hW hz cb0
   refine (q0c.out _).mono ?_
   rintro r w' ⟨rfl,x1,rfl⟩
   go_wp2_with (first|(go_at_call 55;with_reducible refine (q1c.out _).mono ?_;rintro r w' ⟨rfl,x,rfl⟩))
   go_ret
   exact⟨rb hF.out,pp hz'.out⟩
set_option maxRecDepth 100000 in
set_option maxHeartbeats 8000000 in
theorem setfits_of (fv fm:Bool) (a0:Int) (a1:Int) (a2:Int) (a3:Int) (a4:Int) (a5:Int) (a6:Int) (s0:Bool) (s1:Bool) (w:World)
  (h0:Kp Tryz.prog w 210 #[.agg #[.int .i64 a1,.int .u64 a2,.int .u64 a3],.bool fv] (.bool s0))
  (h1:Kp Tryz.prog w 210 #[.agg #[.int .i64 a4,.int .u64 a5,.int .u64 a6],.bool fm] (.bool s1)) :
  Kp Tryz.prog w 224 #[.agg #[.bool fv,.bool fm],.agg #[.int .u8 a0,.int .i64 a1,.int .u64 a2,.int .u64 a3,.int .i64 a4,.int .u64 a5,.int .u64 a6]] (.bool (((s0) && (s1)))):=by
 intro y0
 have h0:=h0.up y0
 have h1:=h1.up y0
 obtain⟨V,hV⟩:∃ V,plus w y0=V:=⟨_,rfl⟩
 rw [hV] at h0 h1 ⊢
 clear hV
 have hmf:∀ (fn:Fn) (first cap:Array Value) (w:World),(Instr.makeFunc fn first cap).run Tryz.prog w=.ok (.func fn first cap) w:=fun _ _ _ _=>rfl
 obtain⟨R,hR⟩:∃ R,(((s0) && (s1)))=R:=⟨_,rfl⟩
 rw [hR]
 cases s0
 case false =>
  have hF:=Lib.hid (show (false)=R by first | exact hR|(rw [← hR];simp))
  clear hR
  clear h1
  have h0:=Lib.hid h0
  go_enter Tryz.func224,Tryz.ntmps224
  go_wp2_with fail
  obtain⟨W,yy,hW,⟨z,hz⟩,cb0,cb1⟩:=box2n V _ _ 219 162
  rw [hW]
  have c0_0:=cb0 0 _ rfl
  have c0_1:=cb0 1 _ rfl
  have c1_0:=cb1 0 _ rfl
  have c1_1:=cb1 1 _ rfl
  have c1_2:=cb1 2 _ rfl
  have c1_3:=cb1 3 _ rfl
  have c1_4:=cb1 4 _ rfl
  have c1_5:=cb1 5 _ rfl
  have c1_6:=cb1 6 _ rfl
  have q0c:=Lib.hid (kp_at hz h0.out)
  have hz':=Lib.hid hz
  clear hW hz cb0 cb1
  refine (q0c.out _).mono ?_
  rintro r w' ⟨rfl,x1,rfl⟩
  go_wp2_with fail
  go_ret
  exact⟨rb hF.out,pp hz'.out⟩
 case true =>
  cases s1
  case false =>
   have hF:=Lib.hid (show (false)=R by first | exact hR|(rw [← hR];simp))
   clear hR
   have h0:=Lib.hid h0
   have h1:=Lib.hid h1
   go_enter Tryz.func224,Tryz.ntmps224
   go_wp2_with fail
   obtain⟨W,yy,hW,⟨z,hz⟩,cb0,cb1⟩:=box2n V _ _ 219 162
   rw [hW]
   have c0_0:=cb0 0 _ rfl
   have c0_1:=cb0 1 _ rfl
   have c1_0:=cb1 0 _ rfl
   have c1_1:=cb1 1 _ rfl
   have c1_2:=cb1 2 _ rfl
   have c1_3:=cb1 3 _ rfl
   have c1_4:=cb1 4 _ rfl
   have c1_5:=cb1 5 _ rfl
   have c1_6:=cb1 6 _ rfl
   have q0c:=Lib.hid (kp_at hz h0.out)
   have q1c:=Lib.hid (kp_at hz h1.out)
   have hz':=Lib.hid hz
   clear hW hz cb0 cb1
   refine (q0c.out _).mono ?_
   rintro r w' ⟨rfl,x1,rfl⟩
   go_wp2_with (first|(go_at_call 210;with_reducible refine (q1c.out _).mono ?_;rintro r w' ⟨rfl,x,rfl⟩))
   go_ret
   exact⟨rb hF.out,pp hz'.out⟩
  case true =>
   have hF:=Lib.hid (show (true)=R by first | exact hR|(rw [← hR];simp))
   clear hR
   have h0:=Lib.hid h0
   have h1:=Lib.hid h1
   go_enter Tryz.func224,Tryz.ntmps224
   go_wp2_with fail
   obtain⟨W,yy,hW,⟨z,hz⟩,cb0,cb1⟩:=box2n V _ _ 219 162
   rw [hW]
   have c0_0:=cb0 0 _ rfl
   have c0_1:=cb0 1 _ rfl
   have c1_0:=cb1 0 _ rfl
   have c1_1:=cb1 1 _ rfl
   have c1_2:=cb1 2 _ rfl
   have c1_3:=cb1 3 _ rfl
   have c1_4:=cb1 4 _ rfl
   have c1_5:=cb1 5 _ rfl
   have c1_6:=cb1 6 _ rfl
   have q0c:=Lib.hid (kp_at hz h0.out)
   have q1c:=Lib.hid (kp_at hz h1.out)
   have hz':=Lib.hid hz
   clear hW hz cb0 cb1
   refine (q0c.out _).mono ?_
   rintro r w' ⟨rfl,x1,rfl⟩
   go_wp2_with (first|(go_at_call 210;with_reducible refine (q1c.out _).mono ?_;rintro r w' ⟨rfl,x,rfl⟩))
   go_ret
   exact⟨rb hF.out,pp hz'.out⟩
set_option maxRecDepth 100000 in
set_option maxHeartbeats 8000000 in
theorem branch_true (m1 m2 m3:Nat) (a1p:Option Addr) (a1n:Nat) (a1c:Nat) (a2:ByteArray) (k:Int) (s0:Bool) (s1:Bool) (w:World)
  (h0:Kp Tryz.prog w 190 #[.string a2] (.bool s0))
  (h1:Kp Tryz.prog w 214 #[.slice a1p a1n a1c,.int .i64 0,.int .i64 0,.func (.func 215) #[.agg #[.map (some m1),.map (some m2),.map (some m3)]] #[]] (.bool s1)) :
  Kp Tryz.prog w 193 #[.agg #[.map (some m1),.map (some m2),.map (some m3)],.agg #[.bool true,.slice a1p a1n a1c,.string a2],.int .i64 k] (.bool (((s0) && (s1)))):=by
 intro y0
 have h0:=h0.up y0
 have h1:=h1.up y0
 obtain⟨V,hV⟩:∃ V,plus w y0=V:=⟨_,rfl⟩
 rw [hV] at h0 h1 ⊢
 clear hV
 have hmf:∀ (fn:Fn) (first cap:Array Value) (w:World),(Instr.makeFunc fn first cap).run Tryz.prog w=.ok (.func fn first cap) w:=fun _ _ _ _=>rfl
 obtain⟨R,hR⟩:∃ R,(((s0) && (s1)))=R:=⟨_,rfl⟩
 rw [hR]
 cases s0
 case false =>
  have hF:=Lib.hid (show (false)=R by first | exact hR|(rw [← hR];simp))
  clear hR
  clear h1
  have h0:=Lib.hid h0
  go_enter Tryz.func193,Tryz.ntmps193
  go_wp2_with fail
  obtain⟨W,yy,hW,⟨z,hz⟩,cb0,cb1⟩:=box2n V _ _ 117 70
  rw [hW]
  have c0_0:=cb0 0 _ rfl
  have c0_1:=cb0 1 _ rfl
  have c0_2:=cb0 2 _ rfl
  have c1_0:=cb1 0 _ rfl
  have c1_1:=cb1 1 _ rfl
  have c1_2:=cb1 2 _ rfl
  have q0c:=Lib.hid (kp_at hz h0.out)
  have hz':=Lib.hid hz
  clear hW hz cb0 cb1
  refine (q0c.out _).mono ?_
  rintro r w' ⟨rfl,x1,rfl⟩
  go_wp2_with fail
  go_ret
  exact⟨rb hF.out,pp hz'.out⟩
 case true =>
  cases s1
  case false =>
   have hF:=Lib.hid (show (false)=R by first | exact hR|(rw [← hR];simp))
   clear hR
   have h0:=Lib.hid h0
   have h1:=Lib.hid h1
   go_enter Tryz.func193,Tryz.ntmps193
   go_wp2_with fail
   obtain⟨W,yy,hW,⟨z,hz⟩,cb0,cb1⟩:=box2n V _ _ 117 70
   rw [hW]
   have c0_0:=cb0 0 _ rfl
   have c0_1:=cb0 1 _ rfl
   have c0_2:=cb0 2 _ rfl
   have c1_0:=cb1 0 _ rfl
   have c1_1:=cb1 1 _ rfl
   have c1_2:=cb1 2 _ rfl
   have q0c:=Lib.hid (kp_at hz h0.out)
   have q1c:=Lib.hid (kp_at hz h1.out)
   have hz':=Lib.hid hz
   clear hW hz cb0 cb1
   refine (q0c.out _).mono ?_
   rintro r w' ⟨rfl,x1,rfl⟩
   go_wp2_with (first|(go_at_call 214;with_reducible refine (q1c.out _).mono ?_;rintro r w' ⟨rfl,x,rfl⟩))
   go_ret
   exact⟨rb hF.out,pp hz'.out⟩
  case true =>
   have hF:=Lib.hid (show (true)=R by first | exact hR|(rw [← hR];simp))
   clear hR
   have h0:=Lib.hid h0
   have h1:=Lib.hid h1
   go_enter Tryz.func193,Tryz.ntmps193
   go_wp2_with fail
   obtain⟨W,yy,hW,⟨z,hz⟩,cb0,cb1⟩:=box2n V _ _ 117 70
   rw [hW]
   have c0_0:=cb0 0 _ rfl
   have c0_1:=cb0 1 _ rfl
   have c0_2:=cb0 2 _ rfl
   have c1_0:=cb1 0 _ rfl
   have c1_1:=cb1 1 _ rfl
   have c1_2:=cb1 2 _ rfl
   have q0c:=Lib.hid (kp_at hz h0.out)
   have q1c:=Lib.hid (kp_at hz h1.out)
   have hz':=Lib.hid hz
   clear hW hz cb0 cb1
   refine (q0c.out _).mono ?_
   rintro r w' ⟨rfl,x1,rfl⟩
   go_wp2_with (first|(go_at_call 214;with_reducible refine (q1c.out _).mono ?_;rintro r w' ⟨rfl,x,rfl⟩))
   go_ret
   exact⟨rb hF.out,pp hz'.out⟩
set_option maxRecDepth 100000 in
set_option maxHeartbeats 8000000 in
theorem branch_false (m1 m2 m3:Nat) (a1p:Option Addr) (a1n:Nat) (a1c:Nat) (a2:ByteArray) (k:Int) (s0:Bool) (s1:Bool) (w:World)
  (h0:Kp Tryz.prog w 190 #[.string a2] (.bool s0))
  (h1:Kp Tryz.prog w 214 #[.slice a1p a1n a1c,.int .i64 k,.int .i64 k,.func (.func 215) #[.agg #[.map (some m1),.map (some m2),.map (some m3)]] #[]] (.bool s1)) :
  Kp Tryz.prog w 193 #[.agg #[.map (some m1),.map (some m2),.map (some m3)],.agg #[.bool false,.slice a1p a1n a1c,.string a2],.int .i64 k] (.bool (((s0) && (s1)))):=by
 intro y0
 have h0:=h0.up y0
 have h1:=h1.up y0
 obtain⟨V,hV⟩:∃ V,plus w y0=V:=⟨_,rfl⟩
 rw [hV] at h0 h1 ⊢
 clear hV
 have hmf:∀ (fn:Fn) (first cap:Array Value) (w:World),(Instr.makeFunc fn first cap).run Tryz.prog w=.ok (.func fn first cap) w:=fun _ _ _ _=>rfl
 obtain⟨R,hR⟩:∃ R,(((s0) && (s1)))=R:=⟨_,rfl⟩
 rw [hR]
 cases s0
 case false =>
  have hF:=Lib.hid (show (false)=R by first | exact hR|(rw [← hR];simp))
  clear hR
  clear h1
  have h0:=Lib.hid h0
  go_enter Tryz.func193,Tryz.ntmps193
  go_wp2_with fail
  obtain⟨W,yy,hW,⟨z,hz⟩,cb0,cb1⟩:=box2n V _ _ 117 70
  rw [hW]
  have c0_0:=cb0 0 _ rfl
  have c0_1:=cb0 1 _ rfl
  have c0_2:=cb0 2 _ rfl
  have c1_0:=cb1 0 _ rfl
  have c1_1:=cb1 1 _ rfl
  have c1_2:=cb1 2 _ rfl
  have q0c:=Lib.hid (kp_at hz h0.out)
  have hz':=Lib.hid hz
  clear hW hz cb0 cb1
  refine (q0c.out _).mono ?_
  rintro r w' ⟨rfl,x1,rfl⟩
  go_wp2_with fail
  go_ret
  exact⟨rb hF.out,pp hz'.out⟩
 case true =>
  cases s1
  case false =>
   have hF:=Lib.hid (show (false)=R by first | exact hR|(rw [← hR];simp))
   clear hR
   have h0:=Lib.hid h0
   have h1:=Lib.hid h1
   go_enter Tryz.func193,Tryz.ntmps193
   go_wp2_with fail
   obtain⟨W,yy,hW,⟨z,hz⟩,cb0,cb1⟩:=box2n V _ _ 117 70
   rw [hW]
   have c0_0:=cb0 0 _ rfl
   have c0_1:=cb0 1 _ rfl
   have c0_2:=cb0 2 _ rfl
   have c1_0:=cb1 0 _ rfl
   have c1_1:=cb1 1 _ rfl
   have c1_2:=cb1 2 _ rfl
   have q0c:=Lib.hid (kp_at hz h0.out)
   have q1c:=Lib.hid (kp_at hz h1.out)
   have hz':=Lib.hid hz
   clear hW hz cb0 cb1
   refine (q0c.out _).mono ?_
   rintro r w' ⟨rfl,x1,rfl⟩
   go_wp2_with (first|(go_at_call 214;with_reducible refine (q1c.out _).mono ?_;rintro r w' ⟨rfl,x,rfl⟩))
   go_ret
   exact⟨rb hF.out,pp hz'.out⟩
  case true =>
   have hF:=Lib.hid (show (true)=R by first | exact hR|(rw [← hR];simp))
   clear hR
   have h0:=Lib.hid h0
   have h1:=Lib.hid h1
   go_enter Tryz.func193,Tryz.ntmps193
   go_wp2_with fail
   obtain⟨W,yy,hW,⟨z,hz⟩,cb0,cb1⟩:=box2n V _ _ 117 70
   rw [hW]
   have c0_0:=cb0 0 _ rfl
   have c0_1:=cb0 1 _ rfl
   have c0_2:=cb0 2 _ rfl
   have c1_0:=cb1 0 _ rfl
   have c1_1:=cb1 1 _ rfl
   have c1_2:=cb1 2 _ rfl
   have q0c:=Lib.hid (kp_at hz h0.out)
   have q1c:=Lib.hid (kp_at hz h1.out)
   have hz':=Lib.hid hz
   clear hW hz cb0 cb1
   refine (q0c.out _).mono ?_
   rintro r w' ⟨rfl,x1,rfl⟩
   go_wp2_with (first|(go_at_call 214;with_reducible refine (q1c.out _).mono ?_;rintro r w' ⟨rfl,x,rfl⟩))
   go_ret
   exact⟨rb hF.out,pp hz'.out⟩
set_option maxRecDepth 100000 in
set_option maxHeartbeats 8000000 in
theorem maystate_of (m1 m2 m3:Nat) (a0:ByteArray) (a1p:Option Addr) (a1n:Nat) (a1c:Nat) (a2:ByteArray) (a3p:Option Addr) (a3n:Nat) (a3c:Nat) (a4p:Option Addr) (a4n:Nat) (a4c:Nat) (s0:Bool) (s1:Bool) (s2:Bool) (w:World)
  (h0:Kp Tryz.prog w 65 #[.string a0] (.bool s0))
  (h1:Kp Tryz.prog w 64 #[.slice a1p a1n a1c,.int .i64 0,.int .i64 8,.func (.func 65) #[] #[]] (.bool s1))
  (h2:Kp Tryz.prog w 132 #[.agg #[.map (some m1),.map (some m2),.map (some m3)],.agg #[.string a0,.slice a1p a1n a1c,.string a2,.slice a3p a3n a3c,.slice a4p a4n a4c]] (.bool s2)) :
  Kp Tryz.prog w 58 #[.agg #[.map (some m1),.map (some m2),.map (some m3)],.agg #[.string a0,.slice a1p a1n a1c,.string a2,.slice a3p a3n a3c,.slice a4p a4n a4c]] (.bool (((s0) && ((s1) && (s2))))):=by
 intro y0
 have h0:=h0.up y0
 have h1:=h1.up y0
 have h2:=h2.up y0
 obtain⟨V,hV⟩:∃ V,plus w y0=V:=⟨_,rfl⟩
 rw [hV] at h0 h1 h2 ⊢
 clear hV
 have hmf:∀ (fn:Fn) (first cap:Array Value) (w:World),(Instr.makeFunc fn first cap).run Tryz.prog w=.ok (.func fn first cap) w:=fun _ _ _ _=>rfl
 obtain⟨R,hR⟩:∃ R,(((s0) && ((s1) && (s2))))=R:=⟨_,rfl⟩
 rw [hR]
 cases s0
 case false =>
  have hF:=Lib.hid (show (false)=R by first | exact hR|(rw [← hR];simp))
  clear hR
  clear h1 h2
  have h0:=Lib.hid h0
  go_enter Tryz.func58,Tryz.ntmps58
  go_wp2_with fail
  obtain⟨W,yy,hW,⟨z,hz⟩,cb0,cb1⟩:=box2n V _ _ 117 61
  rw [hW]
  have c0_0:=cb0 0 _ rfl
  have c0_1:=cb0 1 _ rfl
  have c0_2:=cb0 2 _ rfl
  have c1_0:=cb1 0 _ rfl
  have c1_1:=cb1 1 _ rfl
  have c1_2:=cb1 2 _ rfl
  have c1_3:=cb1 3 _ rfl
  have c1_4:=cb1 4 _ rfl
  have q0c:=Lib.hid (kp_at hz h0.out)
  have hz':=Lib.hid hz
  clear hW hz cb0 cb1
  refine (q0c.out _).mono ?_
  rintro r w' ⟨rfl,x1,rfl⟩
  go_wp2_with fail
  go_ret
  exact⟨rb hF.out,pp hz'.out⟩
 case true =>
  cases s1
  case false =>
   have hF:=Lib.hid (show (false)=R by first | exact hR|(rw [← hR];simp))
   clear hR
   clear h2
   have h0:=Lib.hid h0
   have h1:=Lib.hid h1
   go_enter Tryz.func58,Tryz.ntmps58
   go_wp2_with fail
   obtain⟨W,yy,hW,⟨z,hz⟩,cb0,cb1⟩:=box2n V _ _ 117 61
   rw [hW]
   have c0_0:=cb0 0 _ rfl
   have c0_1:=cb0 1 _ rfl
   have c0_2:=cb0 2 _ rfl
   have c1_0:=cb1 0 _ rfl
   have c1_1:=cb1 1 _ rfl
   have c1_2:=cb1 2 _ rfl
   have c1_3:=cb1 3 _ rfl
   have c1_4:=cb1 4 _ rfl
   have q0c:=Lib.hid (kp_at hz h0.out)
   have q1c:=Lib.hid (kp_at hz h1.out)
   have hz':=Lib.hid hz
   clear hW hz cb0 cb1
   refine (q0c.out _).mono ?_
   rintro r w' ⟨rfl,x1,rfl⟩
   go_wp2_with (first|(go_at_call 64;with_reducible refine (q1c.out _).mono ?_;rintro r w' ⟨rfl,x,rfl⟩))
   go_ret
   exact⟨rb hF.out,pp hz'.out⟩
  case true =>
   cases s2
   case false =>
    have hF:=Lib.hid (show (false)=R by first | exact hR|(rw [← hR];simp))
    clear hR
    have h0:=Lib.hid h0
    have h1:=Lib.hid h1
    have h2:=Lib.hid h2
    go_enter Tryz.func58,Tryz.ntmps58
    go_wp2_with fail
    obtain⟨W,yy,hW,⟨z,hz⟩,cb0,cb1⟩:=box2n V _ _ 117 61
    rw [hW]
    have c0_0:=cb0 0 _ rfl
    have c0_1:=cb0 1 _ rfl
    have c0_2:=cb0 2 _ rfl
    have c1_0:=cb1 0 _ rfl
    have c1_1:=cb1 1 _ rfl
    have c1_2:=cb1 2 _ rfl
    have c1_3:=cb1 3 _ rfl
    have c1_4:=cb1 4 _ rfl
    have q0c:=Lib.hid (kp_at hz h0.out)
    have q1c:=Lib.hid (kp_at hz h1.out)
    have q2c:=Lib.hid (kp_at hz h2.out)
    have hz':=Lib.hid hz
    clear hW hz cb0 cb1
    refine (q0c.out _).mono ?_
    rintro r w' ⟨rfl,x1,rfl⟩
    go_wp2_with (first|(go_at_call 64;with_reducible refine (q1c.out _).mono ?_;rintro r w' ⟨rfl,x,rfl⟩)|(go_at_call 132;with_reducible refine (q2c.out _).mono ?_;rintro r w' ⟨rfl,x,rfl⟩))
    go_ret
    exact⟨rb hF.out,pp hz'.out⟩
   case true =>
    have hF:=Lib.hid (show (true)=R by first | exact hR|(rw [← hR];simp))
    clear hR
    have h0:=Lib.hid h0
    have h1:=Lib.hid h1
    have h2:=Lib.hid h2
    go_enter Tryz.func58,Tryz.ntmps58
    go_wp2_with fail
    obtain⟨W,yy,hW,⟨z,hz⟩,cb0,cb1⟩:=box2n V _ _ 117 61
    rw [hW]
    have c0_0:=cb0 0 _ rfl
    have c0_1:=cb0 1 _ rfl
    have c0_2:=cb0 2 _ rfl
    have c1_0:=cb1 0 _ rfl
    have c1_1:=cb1 1 _ rfl
    have c1_2:=cb1 2 _ rfl
    have c1_3:=cb1 3 _ rfl
    have c1_4:=cb1 4 _ rfl
    have q0c:=Lib.hid (kp_at hz h0.out)
    have q1c:=Lib.hid (kp_at hz h1.out)
    have q2c:=Lib.hid (kp_at hz h2.out)
    have hz':=Lib.hid hz
    clear hW hz cb0 cb1
    refine (q0c.out _).mono ?_
    rintro r w' ⟨rfl,x1,rfl⟩
    go_wp2_with (first|(go_at_call 64;with_reducible refine (q1c.out _).mono ?_;rintro r w' ⟨rfl,x,rfl⟩)|(go_at_call 132;with_reducible refine (q2c.out _).mono ?_;rintro r w' ⟨rfl,x,rfl⟩))
    go_ret
    exact⟨rb hF.out,pp hz'.out⟩
set_option maxRecDepth 100000 in
set_option maxHeartbeats 8000000 in
theorem mayaction_of (m1 m2 m3:Nat) (a0:ByteArray) (a1p:Option Addr) (a1n:Nat) (a1c:Nat) (a2p:Option Addr) (a2n:Nat) (a2c:Nat) (s0:Bool) (s1:Bool) (s2:Bool) (w:World)
  (h0:Kp Tryz.prog w 65 #[.string a0] (.bool s0))
  (h1:Kp Tryz.prog w 55 #[.slice a1p a1n a1c,.int .i64 0,.int .i64 8,.func (.func 56) #[] #[]] (.bool s1))
  (h2:Kp Tryz.prog w 63 #[.agg #[.map (some m1),.map (some m2),.map (some m3)],.slice a2p a2n a2c] (.bool s2)) :
  Kp Tryz.prog w 60 #[.agg #[.map (some m1),.map (some m2),.map (some m3)],.agg #[.string a0,.slice a1p a1n a1c,.slice a2p a2n a2c]] (.bool (((s0) && ((s1) && (s2))))):=by
 intro y0
 have h0:=h0.up y0
 have h1:=h1.up y0
 have h2:=h2.up y0
 obtain⟨V,hV⟩:∃ V,plus w y0=V:=⟨_,rfl⟩
 rw [hV] at h0 h1 h2 ⊢
 clear hV
 have hmf:∀ (fn:Fn) (first cap:Array Value) (w:World),(Instr.makeFunc fn first cap).run Tryz.prog w=.ok (.func fn first cap) w:=fun _ _ _ _=>rfl
 obtain⟨R,hR⟩:∃ R,(((s0) && ((s1) && (s2))))=R:=⟨_,rfl⟩
 rw [hR]
 cases s0
 case false =>
  have hF:=Lib.hid (show (false)=R by first | exact hR|(rw [← hR];simp))
  clear hR
  clear h1 h2
  have h0:=Lib.hid h0
  go_enter Tryz.func60,Tryz.ntmps60
  go_wp2_with fail
  obtain⟨W,yy,hW,⟨z,hz⟩,cb0,cb1⟩:=box2n V _ _ 117 72
  rw [hW]
  have c0_0:=cb0 0 _ rfl
  have c0_1:=cb0 1 _ rfl
  have c0_2:=cb0 2 _ rfl
  have c1_0:=cb1 0 _ rfl
  have c1_1:=cb1 1 _ rfl
  have c1_2:=cb1 2 _ rfl
  have q0c:=Lib.hid (kp_at hz h0.out)
  have hz':=Lib.hid hz
  clear hW hz cb0 cb1
  refine (q0c.out _).mono ?_
  rintro r w' ⟨rfl,x1,rfl⟩
  go_wp2_with fail
  go_ret
  exact⟨rb hF.out,pp hz'.out⟩
 case true =>
  cases s1
  case false =>
   have hF:=Lib.hid (show (false)=R by first | exact hR|(rw [← hR];simp))
   clear hR
   clear h2
   have h0:=Lib.hid h0
   have h1:=Lib.hid h1
   go_enter Tryz.func60,Tryz.ntmps60
   go_wp2_with fail
   obtain⟨W,yy,hW,⟨z,hz⟩,cb0,cb1⟩:=box2n V _ _ 117 72
   rw [hW]
   have c0_0:=cb0 0 _ rfl
   have c0_1:=cb0 1 _ rfl
   have c0_2:=cb0 2 _ rfl
   have c1_0:=cb1 0 _ rfl
   have c1_1:=cb1 1 _ rfl
   have c1_2:=cb1 2 _ rfl
   have q0c:=Lib.hid (kp_at hz h0.out)
   have q1c:=Lib.hid (kp_at hz h1.out)
   have hz':=Lib.hid hz
   clear hW hz cb0 cb1
   refine (q0c.out _).mono ?_
   rintro r w' ⟨rfl,x1,rfl⟩
   go_wp2_with (first|(go_at_call 55;with_reducible refine (q1c.out _).mono ?_;rintro r w' ⟨rfl,x,rfl⟩))
   go_ret
   exact⟨rb hF.out,pp hz'.out⟩
  case true =>
   cases s2
   case false =>
    have hF:=Lib.hid (show (false)=R by first | exact hR|(rw [← hR];simp))
    clear hR
    have h0:=Lib.hid h0
    have h1:=Lib.hid h1
    have h2:=Lib.hid h2
    go_enter Tryz.func60,Tryz.ntmps60
    go_wp2_with fail
    obtain⟨W,yy,hW,⟨z,hz⟩,cb0,cb1⟩:=box2n V _ _ 117 72
    rw [hW]
    have c0_0:=cb0 0 _ rfl
    have c0_1:=cb0 1 _ rfl
    have c0_2:=cb0 2 _ rfl
    have c1_0:=cb1 0 _ rfl
    have c1_1:=cb1 1 _ rfl
    have c1_2:=cb1 2 _ rfl
    have q0c:=Lib.hid (kp_at hz h0.out)
    have q1c:=Lib.hid (kp_at hz h1.out)
    have q2c:=Lib.hid (kp_at hz h2.out)
    have hz':=Lib.hid hz
    clear hW hz cb0 cb1
    refine (q0c.out _).mono ?_
    rintro r w' ⟨rfl,x1,rfl⟩
    go_wp2_with (first|(go_at_call 55;with_reducible refine (q1c.out _).mono ?_;rintro r w' ⟨rfl,x,rfl⟩)|(go_at_call 63;with_reducible refine (q2c.out _).mono ?_;rintro r w' ⟨rfl,x,rfl⟩))
    go_ret
    exact⟨rb hF.out,pp hz'.out⟩
   case true =>
    have hF:=Lib.hid (show (true)=R by first | exact hR|(rw [← hR];simp))
    clear hR
    have h0:=Lib.hid h0
    have h1:=Lib.hid h1
    have h2:=Lib.hid h2
    go_enter Tryz.func60,Tryz.ntmps60
    go_wp2_with fail
    obtain⟨W,yy,hW,⟨z,hz⟩,cb0,cb1⟩:=box2n V _ _ 117 72
    rw [hW]
    have c0_0:=cb0 0 _ rfl
    have c0_1:=cb0 1 _ rfl
    have c0_2:=cb0 2 _ rfl
    have c1_0:=cb1 0 _ rfl
    have c1_1:=cb1 1 _ rfl
    have c1_2:=cb1 2 _ rfl
    have q0c:=Lib.hid (kp_at hz h0.out)
    have q1c:=Lib.hid (kp_at hz h1.out)
    have q2c:=Lib.hid (kp_at hz h2.out)
    have hz':=Lib.hid hz
    clear hW hz cb0 cb1
    refine (q0c.out _).mono ?_
    rintro r w' ⟨rfl,x1,rfl⟩
    go_wp2_with (first|(go_at_call 55;with_reducible refine (q1c.out _).mono ?_;rintro r w' ⟨rfl,x,rfl⟩)|(go_at_call 63;with_reducible refine (q2c.out _).mono ?_;rintro r w' ⟨rfl,x,rfl⟩))
    go_ret
    exact⟨rb hF.out,pp hz'.out⟩
set_option maxRecDepth 100000 in
set_option maxHeartbeats 8000000 in
theorem maytable_of (m1 m2 m3:Nat) (a0:ByteArray) (a1p:Option Addr) (a1n:Nat) (a1c:Nat) (a2p:Option Addr) (a2n:Nat) (a2c:Nat) (a3:ByteArray) (a4p:Option Addr) (a4n:Nat) (a4c:Nat) (s0:Bool) (s1:Bool) (s2:Bool) (s3:Bool) (s4:Bool) (w:World)
  (h0:Kp Tryz.prog w 65 #[.string a0] (.bool s0))
  (h1:Kp Tryz.prog w 133 #[.slice a1p a1n a1c,.int .i64 1,.int .i64 4,.func (.func 134) #[.agg #[.map (some m1),.map (some m2),.map (some m3)]] #[]] (.bool s1))
  (h2:Kp Tryz.prog w 64 #[.slice a2p a2n a2c,.int .i64 1,.int .i64 16,.func (.func 65) #[] #[]] (.bool s2))
  (h3:Kp Tryz.prog w 65 #[.string a3] (.bool s3))
  (h4:Kp Tryz.prog w 135 #[.slice a4p a4n a4c,.int .i64 0,.int .i64 8,.func (.func 136) #[] #[]] (.bool s4)) :
  Kp Tryz.prog w 62 #[.agg #[.map (some m1),.map (some m2),.map (some m3)],.agg #[.string a0,.slice a1p a1n a1c,.slice a2p a2n a2c,.string a3,.slice a4p a4n a4c]] (.bool (((s0) && ((s1) && ((s2) && ((s3) && (s4))))))):=by
 intro y0
 have h0:=h0.up y0
 have h1:=h1.up y0
 have h2:=h2.up y0
 have h3:=h3.up y0
 have h4:=h4.up y0
 obtain⟨V,hV⟩:∃ V,plus w y0=V:=⟨_,rfl⟩
 rw [hV] at h0 h1 h2 h3 h4 ⊢
 clear hV
 have hmf:∀ (fn:Fn) (first cap:Array Value) (w:World),(Instr.makeFunc fn first cap).run Tryz.prog w=.ok (.func fn first cap) w:=fun _ _ _ _=>rfl
 obtain⟨R,hR⟩:∃ R,(((s0) && ((s1) && ((s2) && ((s3) && (s4))))))=R:=⟨_,rfl⟩
 rw [hR]
 cases s0
 case false =>
  have hF:=Lib.hid (show (false)=R by first | exact hR|(rw [← hR];simp))
  clear hR
  clear h1 h2 h3 h4
  have h0:=Lib.hid h0
  go_enter Tryz.func62,Tryz.ntmps62
  go_wp2_with fail
  obtain⟨W,yy,hW,⟨z,hz⟩,cb0,cb1⟩:=box2n V _ _ 117 58
  rw [hW]
  have c0_0:=cb0 0 _ rfl
  have c0_1:=cb0 1 _ rfl
  have c0_2:=cb0 2 _ rfl
  have c1_0:=cb1 0 _ rfl
  have c1_1:=cb1 1 _ rfl
  have c1_2:=cb1 2 _ rfl
  have c1_3:=cb1 3 _ rfl
  have c1_4:=cb1 4 _ rfl
  have q0c:=Lib.hid (kp_at hz h0.out)
  have hz':=Lib.hid hz
  clear hW hz cb0 cb1
  refine (q0c.out _).mono ?_
  rintro r w' ⟨rfl,x1,rfl⟩
  go_wp2_with fail
  go_ret
  exact⟨rb hF.out,pp hz'.out⟩
 case true =>
  cases s1
  case false =>
   have hF:=Lib.hid (show (false)=R by first | exact hR|(rw [← hR];simp))
   clear hR
   clear h2 h3 h4
   have h0:=Lib.hid h0
   have h1:=Lib.hid h1
   go_enter Tryz.func62,Tryz.ntmps62
   go_wp2_with fail
   obtain⟨W,yy,hW,⟨z,hz⟩,cb0,cb1⟩:=box2n V _ _ 117 58
   rw [hW]
   have c0_0:=cb0 0 _ rfl
   have c0_1:=cb0 1 _ rfl
   have c0_2:=cb0 2 _ rfl
   have c1_0:=cb1 0 _ rfl
   have c1_1:=cb1 1 _ rfl
   have c1_2:=cb1 2 _ rfl
   have c1_3:=cb1 3 _ rfl
   have c1_4:=cb1 4 _ rfl
   have q0c:=Lib.hid (kp_at hz h0.out)
   have q1c:=Lib.hid (kp_at hz h1.out)
   have hz':=Lib.hid hz
   clear hW hz cb0 cb1
   refine (q0c.out _).mono ?_
   rintro r w' ⟨rfl,x1,rfl⟩
   go_wp2_with (first|(go_at_call 133;with_reducible refine (q1c.out _).mono ?_;rintro r w' ⟨rfl,x,rfl⟩))
   go_ret
   exact⟨rb hF.out,pp hz'.out⟩
  case true =>
   cases s2
   case false =>
    have hF:=Lib.hid (show (false)=R by first | exact hR|(rw [← hR];simp))
    clear hR
    clear h3 h4
    have h0:=Lib.hid h0
    have h1:=Lib.hid h1
    have h2:=Lib.hid h2
    go_enter Tryz.func62,Tryz.ntmps62
    go_wp2_with fail
    obtain⟨W,yy,hW,⟨z,hz⟩,cb0,cb1⟩:=box2n V _ _ 117 58
    rw [hW]
    have c0_0:=cb0 0 _ rfl
    have c0_1:=cb0 1 _ rfl
    have c0_2:=cb0 2 _ rfl
    have c1_0:=cb1 0 _ rfl
    have c1_1:=cb1 1 _ rfl
    have c1_2:=cb1 2 _ rfl
    have c1_3:=cb1 3 _ rfl
    have c1_4:=cb1 4 _ rfl
    have q0c:=Lib.hid (kp_at hz h0.out)
    have q1c:=Lib.hid (kp_at hz h1.out)
    have q2c:=Lib.hid (kp_at hz h2.out)
    have hz':=Lib.hid hz
    clear hW hz cb0 cb1
    refine (q0c.out _).mono ?_
    rintro r w' ⟨rfl,x1,rfl⟩
    go_wp2_with (first|(go_at_call 133;with_reducible refine (q1c.out _).mono ?_;rintro r w' ⟨rfl,x,rfl⟩)|(go_at_call 64;with_reducible refine (q2c.out _).mono ?_;rintro r w' ⟨rfl,x,rfl⟩))
    go_ret
    exact⟨rb hF.out,pp hz'.out⟩
   case true =>
    cases s3
    case false =>
     have hF:=Lib.hid (show (false)=R by first | exact hR|(rw [← hR];simp))
     clear hR
     clear h4
     have h0:=Lib.hid h0
     have h1:=Lib.hid h1
     have h2:=Lib.hid h2
     have h3:=Lib.hid h3
     go_enter Tryz.func62,Tryz.ntmps62
     go_wp2_with fail
     obtain⟨W,yy,hW,⟨z,hz⟩,cb0,cb1⟩:=box2n V _ _ 117 58
     rw [hW]
     have c0_0:=cb0 0 _ rfl
     have c0_1:=cb0 1 _ rfl
     have c0_2:=cb0 2 _ rfl
     have c1_0:=cb1 0 _ rfl
     have c1_1:=cb1 1 _ rfl
     have c1_2:=cb1 2 _ rfl
     have c1_3:=cb1 3 _ rfl
     have c1_4:=cb1 4 _ rfl
     have q0c:=Lib.hid (kp_at hz h0.out)
     have q1c:=Lib.hid (kp_at hz h1.out)
     have q2c:=Lib.hid (kp_at hz h2.out)
     have q3c:=Lib.hid (kp_at hz h3.out)
     have hz':=Lib.hid hz
     clear hW hz cb0 cb1
     refine (q0c.out _).mono ?_
     rintro r w' ⟨rfl,x1,rfl⟩
     go_wp2_with (first|(go_at_call 133;with_reducible refine (q1c.out _).mono ?_;rintro r w' ⟨rfl,x,rfl⟩)|(go_at_call 64;with_reducible refine (q2c.out _).mono ?_;rintro r w' ⟨rfl,x,rfl⟩)|(go_at_call 65;with_reducible refine (q3c.out _).mono ?_;rintro r w' ⟨rfl,x,rfl⟩))
     go_ret
     exact⟨rb hF.out,pp hz'.out⟩
    case true =>
     cases s4
     case false =>
      have hF:=Lib.hid (show (false)=R by first | exact hR|(rw [← hR];simp))
      clear hR
      have h0:=Lib.hid h0
      have h1:=Lib.hid h1
      have h2:=Lib.hid h2
      have h3:=Lib.hid h3
      have h4:=Lib.hid h4
      go_enter Tryz.func62,Tryz.ntmps62
      go_wp2_with fail
      obtain⟨W,yy,hW,⟨z,hz⟩,cb0,cb1⟩:=box2n V _ _ 117 58
      rw [hW]
      have c0_0:=cb0 0 _ rfl
      have c0_1:=cb0 1 _ rfl
      have c0_2:=cb0 2 _ rfl
      have c1_0:=cb1 0 _ rfl
      have c1_1:=cb1 1 _ rfl
      have c1_2:=cb1 2 _ rfl
      have c1_3:=cb1 3 _ rfl
      have c1_4:=cb1 4 _ rfl
      have q0c:=Lib.hid (kp_at hz h0.out)
      have q1c:=Lib.hid (kp_at hz h1.out)
      have q2c:=Lib.hid (kp_at hz h2.out)
      have q3c:=Lib.hid (kp_at hz h3.out)
      have q4c:=Lib.hid (kp_at hz h4.out)
      have hz':=Lib.hid hz
      clear hW hz cb0 cb1
      refine (q0c.out _).mono ?_
      rintro r w' ⟨rfl,x1,rfl⟩
      go_wp2_with (first|(go_at_call 133;with_reducible refine (q1c.out _).mono ?_;rintro r w' ⟨rfl,x,rfl⟩)|(go_at_call 64;with_reducible refine (q2c.out _).mono ?_;rintro r w' ⟨rfl,x,rfl⟩)|(go_at_call 65;with_reducible refine (q3c.out _).mono ?_;rintro r w' ⟨rfl,x,rfl⟩)|(go_at_call 135;with_reducible refine (q4c.out _).mono ?_;rintro r w' ⟨rfl,x,rfl⟩))
      go_ret
      exact⟨rb hF.out,pp hz'.out⟩
     case true =>
      have hF:=Lib.hid (show (true)=R by first | exact hR|(rw [← hR];simp))
      clear hR
      have h0:=Lib.hid h0
      have h1:=Lib.hid h1
      have h2:=Lib.hid h2
      have h3:=Lib.hid h3
      have h4:=Lib.hid h4
      go_enter Tryz.func62,Tryz.ntmps62
      go_wp2_with fail
      obtain⟨W,yy,hW,⟨z,hz⟩,cb0,cb1⟩:=box2n V _ _ 117 58
      rw [hW]
      have c0_0:=cb0 0 _ rfl
      have c0_1:=cb0 1 _ rfl
      have c0_2:=cb0 2 _ rfl
      have c1_0:=cb1 0 _ rfl
      have c1_1:=cb1 1 _ rfl
      have c1_2:=cb1 2 _ rfl
      have c1_3:=cb1 3 _ rfl
      have c1_4:=cb1 4 _ rfl
      have q0c:=Lib.hid (kp_at hz h0.out)
      have q1c:=Lib.hid (kp_at hz h1.out)
      have q2c:=Lib.hid (kp_at hz h2.out)
      have q3c:=Lib.hid (kp_at hz h3.out)
      have q4c:=Lib.hid (kp_at hz h4.out)
      have hz':=Lib.hid hz
      clear hW hz cb0 cb1
      refine (q0c.out _).mono ?_
      rintro r w' ⟨rfl,x1,rfl⟩
      go_wp2_with (first|(go_at_call 133;with_reducible refine (q1c.out _).mono ?_;rintro r w' ⟨rfl,x,rfl⟩)|(go_at_call 64;with_reducible refine (q2c.out _).mono ?_;rintro r w' ⟨rfl,x,rfl⟩)|(go_at_call 65;with_reducible refine (q3c.out _).mono ?_;rintro r w' ⟨rfl,x,rfl⟩)|(go_at_call 135;with_reducible refine (q4c.out _).mono ?_;rintro r w' ⟨rfl,x,rfl⟩))
      go_ret
      exact⟨rb hF.out,pp hz'.out⟩
set_option maxRecDepth 100000 in
set_option maxHeartbeats 8000000 in
theorem maykey_of (m1 m2 m3:Nat) (a0:Int) (a1:Int) (a2:Int) (a3:Int) (a4:ByteArray) (a5:ByteArray) (a6:Int) (a7:Int) (a8p:Option Addr) (a8n:Nat) (a8c:Nat) (a9:Int) (s0:Bool) (w:World)
  (h0:Kp Tryz.prog w 124 #[.agg #[.map (some m1),.map (some m2),.map (some m3)],.agg #[.int .u8 a0,.int .i64 a1,.int .u64 a2,.int .u64 a3,.string a4,.string a5,.int .i64 a6,.int .i64 a7,.slice a8p a8n a8c]] (.bool s0)) :
  Kp Tryz.prog w 134 #[.agg #[.map (some m1),.map (some m2),.map (some m3)],.agg #[.int .u8 a0,.int .i64 a1,.int .u64 a2,.int .u64 a3,.string a4,.string a5,.int .i64 a6,.int .i64 a7,.slice a8p a8n a8c,.int .u8 a9]] (.bool (decide (1≤a9) && (decide (a9≤3) && s0))):=by
 intro y0
 have h0:=h0.up y0
 obtain⟨V,hV⟩:∃ V,plus w y0=V:=⟨_,rfl⟩
 rw [hV] at h0 ⊢
 clear hV
 obtain⟨R,hR⟩:∃ R,(decide (1≤a9) && (decide (a9≤3) && s0))=R:=⟨_,rfl⟩
 rw [hR]
 by_cases q1:1≤a9
 case neg =>
  have hF:=Lib.hid (show (false)=R by first | exact hR|(rw [← hR];simp [q1]))
  clear hR
  clear h0
  go_enter Tryz.func134,Tryz.ntmps134
  go_wp2_with fail
  go_ret
  exact⟨rb hF.out,alloc2_plus _ _ _⟩
 case pos =>
  by_cases q2:a9≤3
  case neg =>
   have hF:=Lib.hid (show (false)=R by first | exact hR|(rw [← hR];simp [q1,q2]))
   clear hR
   clear h0
   go_enter Tryz.func134,Tryz.ntmps134
   go_wp2_with fail
   go_ret
   exact⟨rb hF.out,alloc2_plus _ _ _⟩
  case pos =>
   cases s0
   case false =>
    have hF:=Lib.hid (show (false)=R by first | exact hR|(rw [← hR];simp [q1,q2]))
    clear hR
    have h0:=Lib.hid h0
    go_enter Tryz.func134,Tryz.ntmps134
    go_wp2_with fail
    obtain⟨W,yy,hW,⟨z,hz⟩,cb0,cb1⟩:=box2n V _ _ 117 52
    rw [hW]
    have c0_0:=cb0 0 _ rfl
    have c0_1:=cb0 1 _ rfl
    have c0_2:=cb0 2 _ rfl
    have c1_0:=cb1 0 _ rfl
    have c1_1:=cb1 1 _ rfl
    have c1_2:=cb1 2 _ rfl
    have c1_3:=cb1 3 _ rfl
    have c1_4:=cb1 4 _ rfl
    have c1_5:=cb1 5 _ rfl
    have c1_6:=cb1 6 _ rfl
    have c1_7:=cb1 7 _ rfl
    have c1_8:=cb1 8 _ rfl
    have c1_9:=cb1 9 _ rfl
    have q0c:=Lib.hid (kp_at hz h0.out)
    have hz':=Lib.hid hz
    clear hW hz cb0 cb1
    refine (q0c.out _).mono ?_
    rintro r w' ⟨rfl,x1,rfl⟩
    go_wp2_with fail
    go_ret
    exact⟨rb hF.out,pp hz'.out⟩
   case true =>
    have hF:=Lib.hid (show (true)=R by first | exact hR|(rw [← hR];simp [q1,q2]))
    clear hR
    have h0:=Lib.hid h0
    go_enter Tryz.func134,Tryz.ntmps134
    go_wp2_with fail
    obtain⟨W,yy,hW,⟨z,hz⟩,cb0,cb1⟩:=box2n V _ _ 117 52
    rw [hW]
    have c0_0:=cb0 0 _ rfl
    have c0_1:=cb0 1 _ rfl
    have c0_2:=cb0 2 _ rfl
    have c1_0:=cb1 0 _ rfl
    have c1_1:=cb1 1 _ rfl
    have c1_2:=cb1 2 _ rfl
    have c1_3:=cb1 3 _ rfl
    have c1_4:=cb1 4 _ rfl
    have c1_5:=cb1 5 _ rfl
    have c1_6:=cb1 6 _ rfl
    have c1_7:=cb1 7 _ rfl
    have c1_8:=cb1 8 _ rfl
    have c1_9:=cb1 9 _ rfl
    have q0c:=Lib.hid (kp_at hz h0.out)
    have hz':=Lib.hid hz
    clear hW hz cb0 cb1
    refine (q0c.out _).mono ?_
    rintro r w' ⟨rfl,x1,rfl⟩
    go_wp2_with fail
    go_ret
    exact⟨rb hF.out,pp hz'.out⟩
set_option maxRecDepth 100000 in
set_option maxHeartbeats 8000000 in
theorem stmtfits_of (fh fn:Int) (fe fk:Bool) (a0:Int) (a1:ByteArray) (a2:ByteArray) (a3:Int) (a4:Int) (a5:Int) (a6:Int) (a7:ByteArray) (a8:ByteArray) (a9:Int) (a10:Int) (a11p:Option Addr) (a11n:Nat) (a11c:Nat) (a12p:Option Addr) (a12n:Nat) (a12c:Nat) (a13p:Option Addr) (a13n:Nat) (a13c:Nat) (s0:Bool) (s1:Bool) (w:World)
  (h0:Kp Tryz.prog w 211 #[.string a1,.int .u8 fh] (.bool s0))
  (h1:Kp Tryz.prog w 211 #[.string a2,.int .u8 fn] (.bool s1)) :
  Kp Tryz.prog w 195 #[.agg #[.int .u8 fh,.int .u8 fn,.bool fe,.bool fk],.agg #[.int .u8 a0,.string a1,.string a2,.int .u8 a3,.int .i64 a4,.int .u64 a5,.int .u64 a6,.string a7,.string a8,.int .i64 a9,.int .i64 a10,.slice a11p a11n a11c,.slice a12p a12n a12c,.slice a13p a13n a13c]] (.bool (s0 && (s1 && (fk || (((a12n:Int) == 0) && ((a13n:Int) == 0)))))):=by
 intro y0
 have h0:=h0.up y0
 have h1:=h1.up y0
 obtain⟨V,hV⟩:∃ V,plus w y0=V:=⟨_,rfl⟩
 rw [hV] at h0 h1 ⊢
 clear hV
 obtain⟨R,hR⟩:∃ R,(s0 && (s1 && (fk || (((a12n:Int) == 0) && ((a13n:Int) == 0)))))=R:=⟨_,rfl⟩
 rw [hR]
 cases s0
 case false =>
  have hF:=Lib.hid (show (false)=R by first | exact hR|(rw [← hR];simp))
  clear hR
  clear h1
  have h0:=Lib.hid h0
  go_enter Tryz.func195,Tryz.ntmps195
  go_wp2_with fail
  obtain⟨W,yy,hW,⟨z,hz⟩,cb0,cb1⟩:=box2n V _ _ 221 47
  rw [hW]
  have c0_0:=cb0 0 _ rfl
  have c0_1:=cb0 1 _ rfl
  have c0_2:=cb0 2 _ rfl
  have c0_3:=cb0 3 _ rfl
  have c1_0:=cb1 0 _ rfl
  have c1_1:=cb1 1 _ rfl
  have c1_2:=cb1 2 _ rfl
  have c1_3:=cb1 3 _ rfl
  have c1_4:=cb1 4 _ rfl
  have c1_5:=cb1 5 _ rfl
  have c1_6:=cb1 6 _ rfl
  have c1_7:=cb1 7 _ rfl
  have c1_8:=cb1 8 _ rfl
  have c1_9:=cb1 9 _ rfl
  have c1_10:=cb1 10 _ rfl
  have c1_11:=cb1 11 _ rfl
  have c1_12:=cb1 12 _ rfl
  have c1_13:=cb1 13 _ rfl
  have q0c:=Lib.hid (kp_at hz h0.out)
  have hz':=Lib.hid hz
  clear hW hz cb0 cb1
  refine (q0c.out _).mono ?_
  rintro r w' ⟨rfl,x1,rfl⟩
  go_wp2_with fail
  go_ret
  exact⟨rb hF.out,pp hz'.out⟩
 case true =>
  cases s1
  case false =>
   have hF:=Lib.hid (show (false)=R by first | exact hR|(rw [← hR];simp))
   clear hR
   have h0:=Lib.hid h0
   have h1:=Lib.hid h1
   go_enter Tryz.func195,Tryz.ntmps195
   go_wp2_with fail
   obtain⟨W,yy,hW,⟨z,hz⟩,cb0,cb1⟩:=box2n V _ _ 221 47
   rw [hW]
   have c0_0:=cb0 0 _ rfl
   have c0_1:=cb0 1 _ rfl
   have c0_2:=cb0 2 _ rfl
   have c0_3:=cb0 3 _ rfl
   have c1_0:=cb1 0 _ rfl
   have c1_1:=cb1 1 _ rfl
   have c1_2:=cb1 2 _ rfl
   have c1_3:=cb1 3 _ rfl
   have c1_4:=cb1 4 _ rfl
   have c1_5:=cb1 5 _ rfl
   have c1_6:=cb1 6 _ rfl
   have c1_7:=cb1 7 _ rfl
   have c1_8:=cb1 8 _ rfl
   have c1_9:=cb1 9 _ rfl
   have c1_10:=cb1 10 _ rfl
   have c1_11:=cb1 11 _ rfl
   have c1_12:=cb1 12 _ rfl
   have c1_13:=cb1 13 _ rfl
   have q0c:=Lib.hid (kp_at hz h0.out)
   have q1c:=Lib.hid (kp_at hz h1.out)
   have hz':=Lib.hid hz
   clear hW hz cb0 cb1
   refine (q0c.out _).mono ?_
   rintro r w' ⟨rfl,x1,rfl⟩
   go_wp2_with (first|(go_at_call 211;with_reducible refine (q1c.out _).mono ?_;rintro r w' ⟨rfl,x,rfl⟩))
   go_ret
   exact⟨rb hF.out,pp hz'.out⟩
  case true =>
   by_cases q1:(fk)=true
   case neg =>
    have q1:(fk)=false:=by simpa using q1
    by_cases q2:((a12n:Int) == 0)=true
    case neg =>
     have q2:((a12n:Int) == 0)=false:=by simpa using q2
     have hF:=Lib.hid (show (false)=R by first | exact hR|(rw [← hR];simp [q1,q2]))
     clear hR
     have h0:=Lib.hid h0
     have h1:=Lib.hid h1
     go_enter Tryz.func195,Tryz.ntmps195
     go_wp2_with fail
     obtain⟨W,yy,hW,⟨z,hz⟩,cb0,cb1⟩:=box2n V _ _ 221 47
     rw [hW]
     have c0_0:=cb0 0 _ rfl
     have c0_1:=cb0 1 _ rfl
     have c0_2:=cb0 2 _ rfl
     have c0_3:=cb0 3 _ rfl
     have c1_0:=cb1 0 _ rfl
     have c1_1:=cb1 1 _ rfl
     have c1_2:=cb1 2 _ rfl
     have c1_3:=cb1 3 _ rfl
     have c1_4:=cb1 4 _ rfl
     have c1_5:=cb1 5 _ rfl
     have c1_6:=cb1 6 _ rfl
     have c1_7:=cb1 7 _ rfl
     have c1_8:=cb1 8 _ rfl
     have c1_9:=cb1 9 _ rfl
     have c1_10:=cb1 10 _ rfl
     have c1_11:=cb1 11 _ rfl
     have c1_12:=cb1 12 _ rfl
     have c1_13:=cb1 13 _ rfl
     have q0c:=Lib.hid (kp_at hz h0.out)
     have q1c:=Lib.hid (kp_at hz h1.out)
     have hz':=Lib.hid hz
     clear hW hz cb0 cb1
     refine (q0c.out _).mono ?_
     rintro r w' ⟨rfl,x1,rfl⟩
     go_wp2_with (first|(go_at_call 211;with_reducible refine (q1c.out _).mono ?_;rintro r w' ⟨rfl,x,rfl⟩))
     go_ret
     exact⟨rb hF.out,pp hz'.out⟩
    case pos =>
     by_cases q3:((a13n:Int) == 0)=true
     case neg =>
      have q3:((a13n:Int) == 0)=false:=by simpa using q3
      have hF:=Lib.hid (show (false)=R by first | exact hR|(rw [← hR];simp [q1,q2,q3]))
      clear hR
      have h0:=Lib.hid h0
      have h1:=Lib.hid h1
      go_enter Tryz.func195,Tryz.ntmps195
      go_wp2_with fail
      obtain⟨W,yy,hW,⟨z,hz⟩,cb0,cb1⟩:=box2n V _ _ 221 47
      rw [hW]
      have c0_0:=cb0 0 _ rfl
      have c0_1:=cb0 1 _ rfl
      have c0_2:=cb0 2 _ rfl
      have c0_3:=cb0 3 _ rfl
      have c1_0:=cb1 0 _ rfl
      have c1_1:=cb1 1 _ rfl
      have c1_2:=cb1 2 _ rfl
      have c1_3:=cb1 3 _ rfl
      have c1_4:=cb1 4 _ rfl
      have c1_5:=cb1 5 _ rfl
      have c1_6:=cb1 6 _ rfl
      have c1_7:=cb1 7 _ rfl
      have c1_8:=cb1 8 _ rfl
      have c1_9:=cb1 9 _ rfl
      have c1_10:=cb1 10 _ rfl
      have c1_11:=cb1 11 _ rfl
      have c1_12:=cb1 12 _ rfl
      have c1_13:=cb1 13 _ rfl
      have q0c:=Lib.hid (kp_at hz h0.out)
      have q1c:=Lib.hid (kp_at hz h1.out)
      have hz':=Lib.hid hz
      clear hW hz cb0 cb1
      refine (q0c.out _).mono ?_
      rintro r w' ⟨rfl,x1,rfl⟩
      go_wp2_with (first|(go_at_call 211;with_reducible refine (q1c.out _).mono ?_;rintro r w' ⟨rfl,x,rfl⟩))
      go_ret
      exact⟨rb hF.out,pp hz'.out⟩
     case pos =>
      have hF:=Lib.hid (show (true)=R by first | exact hR|(rw [← hR];simp [q1,q2,q3]))
      clear hR
      have h0:=Lib.hid h0
      have h1:=Lib.hid h1
      go_enter Tryz.func195,Tryz.ntmps195
      go_wp2_with fail
      obtain⟨W,yy,hW,⟨z,hz⟩,cb0,cb1⟩:=box2n V _ _ 221 47
      rw [hW]
      have c0_0:=cb0 0 _ rfl
      have c0_1:=cb0 1 _ rfl
      have c0_2:=cb0 2 _ rfl
      have c0_3:=cb0 3 _ rfl
      have c1_0:=cb1 0 _ rfl
      have c1_1:=cb1 1 _ rfl
      have c1_2:=cb1 2 _ rfl
      have c1_3:=cb1 3 _ rfl
      have c1_4:=cb1 4 _ rfl
      have c1_5:=cb1 5 _ rfl
      have c1_6:=cb1 6 _ rfl
      have c1_7:=cb1 7 _ rfl
      have c1_8:=cb1 8 _ rfl
      have c1_9:=cb1 9 _ rfl
      have c1_10:=cb1 10 _ rfl
      have c1_11:=cb1 11 _ rfl
      have c1_12:=cb1 12 _ rfl
      have c1_13:=cb1 13 _ rfl
      have q0c:=Lib.hid (kp_at hz h0.out)
      have q1c:=Lib.hid (kp_at hz h1.out)
      have hz':=Lib.hid hz
      clear hW hz cb0 cb1
      refine (q0c.out _).mono ?_
      rintro r w' ⟨rfl,x1,rfl⟩
      go_wp2_with (first|(go_at_call 211;with_reducible refine (q1c.out _).mono ?_;rintro r w' ⟨rfl,x,rfl⟩))
      go_ret
      exact⟨rb hF.out,pp hz'.out⟩
   case pos =>
    have hF:=Lib.hid (show (true)=R by first | exact hR|(rw [← hR];simp [q1]))
    clear hR
    have h0:=Lib.hid h0
    have h1:=Lib.hid h1
    go_enter Tryz.func195,Tryz.ntmps195
    go_wp2_with fail
    obtain⟨W,yy,hW,⟨z,hz⟩,cb0,cb1⟩:=box2n V _ _ 221 47
    rw [hW]
    have c0_0:=cb0 0 _ rfl
    have c0_1:=cb0 1 _ rfl
    have c0_2:=cb0 2 _ rfl
    have c0_3:=cb0 3 _ rfl
    have c1_0:=cb1 0 _ rfl
    have c1_1:=cb1 1 _ rfl
    have c1_2:=cb1 2 _ rfl
    have c1_3:=cb1 3 _ rfl
    have c1_4:=cb1 4 _ rfl
    have c1_5:=cb1 5 _ rfl
    have c1_6:=cb1 6 _ rfl
    have c1_7:=cb1 7 _ rfl
    have c1_8:=cb1 8 _ rfl
    have c1_9:=cb1 9 _ rfl
    have c1_10:=cb1 10 _ rfl
    have c1_11:=cb1 11 _ rfl
    have c1_12:=cb1 12 _ rfl
    have c1_13:=cb1 13 _ rfl
    have q0c:=Lib.hid (kp_at hz h0.out)
    have q1c:=Lib.hid (kp_at hz h1.out)
    have hz':=Lib.hid hz
    clear hW hz cb0 cb1
    refine (q0c.out _).mono ?_
    rintro r w' ⟨rfl,x1,rfl⟩
    go_wp2_with (first|(go_at_call 211;with_reducible refine (q1c.out _).mono ?_;rintro r w' ⟨rfl,x,rfl⟩))
    go_ret
    exact⟨rb hF.out,pp hz'.out⟩
end Go.Proofs.YtobhijbncchpiaaGreat
